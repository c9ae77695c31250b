/- chance, Chance, Trend. -/
import Derived.Test.YtliocbjmledfbaaHExt1
import Derived.Laws.MakeOwn
import Derived.Laws.EntriesVeiled
namespace Go.Proofs.Ytliocbjmledfbaa
open Go.RowKit
attribute [local go_sem] Oper.semAt_some

def lst (V : List Int) : Int × Int := ext V (trL V) V.length [] (List.replicate 8 false)

/-- make at a step of region_inv. -/
theorem wpIn_make_run {P : Program} {k : Nat} {o : Oper} {a : Act} {w w' : World} {K : Act → World → Prop} {Q : Exit → Act → World → Prop} {l c : Operand} {t : TypeId} {v vl vc : Value}
    (ho : o.op = .makeSlice t l c) (hl : a.eval l = vl) (hc : a.eval c = vc) (hr : (Instr.makeSlice t vl vc).run P w = .ok v w') (h : K (a.put o.dst v) w') : Oper.wpIn Fence.wide k P o a w K Q := by
  refine ⟨fun _ _ => trivial, ?_⟩
  rw [Oper.semAt_eq _ _ _ (by simp [ho])]
  unfold Oper.uponIn execOp
  simp only [ho, Sem.run_bind, Sem.run_pure, hl, hc, hr, Result.andThen]
  exact h

/-- chance's memory ahead of the first call. -/
structure PX (p : XP) (W : World) : Prop where
  below : Below p.N p.w0 W
  size : W.heap.size = p.N + 6
  v : W.heap[p.N]? = some (.cells #[.slice p.AV p.n p.c] 22 (0, 0))
  r : W.heap[p.N + 1]? = some (.cells #[.int .i64 0, .int .i64 0] 88 (0, 0))
  l : W.heap[p.N + 2]? = some (.cells #[.int .i64 p.least] 3 (0, 0))
  f : W.heap[p.N + 3]? = some (.cells #[.int .i64 0, .int .i64 0] 88 (0, 0))
  u : W.heap[p.N + 4]? = some (.cells ((List.replicate 8 false).map Value.bool).toArray 112 (0, 0))
  x : W.heap[p.N + 5]? = some (.cells #[.func (.func 89) #[] p.caps] 113 (0, 0))
theorem PX.drew {p : XP} {W : World} (h : PX p W) : PX p W.drew := ⟨h.below.drew, h.size, h.v, h.r, h.l, h.f, h.u, h.x⟩
theorem PX.make {p : XP} {W : World} (h : PX p W) : EX p 0 0 (List.replicate 8 false) [] (W.alloc (.cells (madeCells #[.int .i64 0] p.n) 3)) :=
  ⟨h.below.alloc (by rw [h.size]; omega) _, block_alloc _ h.v, block_alloc _ h.r, block_alloc _ h.l, block_alloc _ h.f, block_alloc _ h.u, block_alloc _ h.x, _, by rw [← h.size]; show (W.heap.push _)[W.heap.size]? = _; rw [Array.getElem?_push, if_pos rfl], by simp [madeCells], fun j y hj => by simp at hj⟩

theorem heapNew {W : World} {x : Obj} {b : Nat} (hb : W.heap.size = b) : (W.alloc x).heap[b]? = some x := by
  subst hb
  show (W.heap.push x)[W.heap.size]? = _
  rw [Array.getElem?_push, if_pos rfl]
def PX.W (p : XP) : World := ((((((p.w0.alloc (.cells #[.slice p.AV p.n p.c] 22)).alloc (.cells #[.int .i64 0, .int .i64 0] 88)).alloc (.cells #[.int .i64 p.least] 3)).alloc (.cells #[.int .i64 0, .int .i64 0] 88)).alloc
      (.cells #[.bool false, .bool false, .bool false, .bool false, .bool false, .bool false, .bool false, .bool false] 112)).alloc
      (.cells #[.func (.func 89) #[] p.caps] 113))
theorem PX.start (p : XP) : PX p (PX.W p) := by
  refine ⟨?_, ?_, ?_, ?_, ?_, ?_, ?_, ?_⟩
  · show Below p.w0.heap.size p.w0 _
    unfold PX.W
    go_grown
  · simp [PX.W, XP.N]
  · exact block_alloc _ (block_alloc _ (block_alloc _ (block_alloc _ (block_alloc _ (heapNew rfl)))))
  · exact block_alloc _ (block_alloc _ (block_alloc _ (block_alloc _ (heapNew (by simp [XP.N])))))
  · exact block_alloc _ (block_alloc _ (block_alloc _ (heapNew (by simp [XP.N]))))
  · exact block_alloc _ (block_alloc _ (heapNew (by simp [XP.N])))
  · exact block_alloc _ (heapNew (by simp [XP.N]))
  · exact heapNew (by simp [XP.N])

def RC (p : XP) (a b : Int) (val : Nat → Value) (L : Array Bool) (W : World) : Prop :=
  (L.getD 0 false = true → val 0 = .func (.func 89) #[] #[.pointer (some ⟨p.N, 0, none⟩), .pointer (some ⟨p.N + 3, 0, none⟩), .pointer (some ⟨p.N + 2, 0, none⟩), .pointer (some ⟨p.N + 4, 0, none⟩), .pointer (some ⟨p.N + 5, 0, none⟩)]) ∧
  (L.getD 1 false = true → val 1 = .slice p.AV p.n p.c) ∧ (L.getD 2 false = true → val 2 = .int .i64 p.n) ∧
  (L.getD 3 false = true → val 3 = .slice (some ⟨p.N + 6, 0, none⟩) 0 p.n) ∧
  (L.getD 4 false = true → EX p a b (List.replicate 8 false) [] W) ∧
  (L.getD 4 false = false → L.getD 3 false = true → EX p 0 0 (List.replicate 8 false) [] W) ∧
  (L.getD 3 false = false → PX p W)
theorem RC.cell {p : XP} {a b : Int} {val : Nat → Value} {L : Array Bool} {W : World} (h : RC p a b val L W) (h4 : L.getD 4 false = false) :
    W.cell? ⟨p.N, 0, none⟩ = some (.slice p.AV p.n p.c) ∧ W.cell? ⟨p.N + 5, 0, none⟩ = some (.func (.func 89) #[] p.caps) := by
  cases h3 : L.getD 3 false with
  | true => exact ⟨cellOf (h.2.2.2.2.2.1 h4 h3).v rfl, cellOf (h.2.2.2.2.2.1 h4 h3).x rfl⟩
  | false => exact ⟨cellOf (h.2.2.2.2.2.2 h3).v rfl, cellOf (h.2.2.2.2.2.2 h3).x rfl⟩

set_option maxRecDepth 100000 in
set_option maxHeartbeats 1000000 in
theorem chance_p (p : XP) (ok : p.Ok) (hl : p.least = trL p.V) (hc : p.n ≤ p.c) :
    Calls Try.prog 68 #[.slice p.AV p.n p.c] p.w0 fun e w' => e = .returned (.agg #[.int .i64 (lst p.V).1, .int .i64 (lst p.V).2]) ∧ Below p.w0.heap.size p.w0 w' := by
  have hmf : ∀ (fn : Fn) (first cap : Array Value) (w : World), (Instr.makeFunc fn first cap).run Try.prog w = .ok (.func fn first cap) w := fun _ _ _ _ => rfl
  have h8 := ok.hi
  have hB : p.B ≤ p.w0.heap.size := ok.B
  have h := ok.V
  have HT := Lib.hid (fun (W : World) (hW : RI W p.B p.AV p.V) => trend_any p.AV p.n p.c p.B p.V W ok.len (by omega) hc hW)
  rw [← hl] at HT
  obtain ⟨i0, hi0, hz0, hz1, hz2⟩ := info_parts info_int
  have HM := Lib.hid (fun W => run_make (P := Try.prog) W 22 3 i0 (.int .i64 0) Try.underlying22 hi0 hz0 .i64 .i64 0 p.n (by omega) (by omega) (by rw [hz2]; omega) (by omega))
  rw [hz1] at HM
  simp only [Int.toNat_natCast, Nat.mul_one, Int.toNat_zero] at HM
  have hPX : PX p (PX.W p) := PX.start p
  have hbd := ext_bd p.V p.least (by rw [ok.len]; exact h8) p.n [] (List.replicate 8 false)
  have hpw : (8 : Int) ^ p.n ≤ 16777216 := by
    have h1 := ok.lo
    rcases (by omega : p.n = 1 ∨ p.n = 2 ∨ p.n = 3 ∨ p.n = 4 ∨ p.n = 5 ∨ p.n = 6 ∨ p.n = 7 ∨ p.n = 8) with e | e | e | e | e | e | e | e <;> rw [e] <;> decide
  have HI := Lib.hid (fun y hy => ext_any p ok p.n [] (List.replicate 8 false) 0 0 0 y (by simp) (by simp) (by simp [trL, trN]) (by omega) (by omega) (by omega) (by omega) hy)
  have HL : Hid (ext p.V p.least p.n [] (List.replicate 8 false) = lst p.V) := Lib.hid (by unfold lst; rw [hl, ok.len])
  rw [HL.out] at HI
  simp only [Int.zero_add, List.length_nil] at HI
  generalize lst p.V = ll at *
  obtain ⟨a, b⟩ := ll
  simp only at HI ⊢
  clear hbd hpw HL hl
  go_enter Try.func68, Try.ntmps68
  go_upto_region 6 with (go_at_call 65; refine Calls.mono (HT.out _ (h.below (by go_grown))) ?_; rintro e w' ⟨rfl, rfl⟩)
  change Code.wp _ _ _ _ (PX.W p)
  refine wpIn_wide.1 (region_inv2 (n := 9) (by kernel_rfl) (RC p a b) (by kernel_rfl) rfl ?start ?hstep ?hend)
  case start =>
    refine ⟨fun h => ?_, fun h => ?_, fun h => ?_, fun h => ?_, fun h => ?_, fun _ h => ?_, fun _ => hPX.drew⟩
    all_goals rw [getD_replicate_no] at h; cases h
  case hstep =>
    clear hPX
    intro i' o' ho val L b' y hF hR hpre hl
    match i', ho with
    | 0, ho =>
      simp at ho
      subst ho
      refine step_plain rfl ?_
      have e6 := hF.was 6 (v := .pointer (some ⟨p.N + 5, 0, none⟩)) (by kernel_rfl) rfl
      have h4 : L.getD 4 false = false := hF.later hl 4 rfl (e := ⟨0, .data⟩) (by simp) rfl rfl
      obtain ⟨c0, c1⟩ := hR.cell h4
      have hgoal : RC p a b (upd val 0 (.func (.func 89) #[] p.caps)) (L.setIfInBounds 0 true) y := by
        obtain ⟨r0, r1, r2, r3, r4, r5, r6⟩ := hR
        refine ⟨fun _ => rfl, ?_, ?_, ?_, ?_, ?_, ?_⟩
        all_goals simp only [getD_set_other (show 0 ≠ 1 by omega), getD_set_other (show 0 ≠ 2 by omega), getD_set_other (show 0 ≠ 3 by omega), getD_set_other (show 0 ≠ 4 by omega), upd_other (show 1 ≠ 0 by omega), upd_other (show 2 ≠ 0 by omega), upd_other (show 3 ≠ 0 by omega)]
        all_goals assumption
      clear hF hpre hl hR h4
      go_simp
      exact ⟨_, rfl, hgoal⟩
    | 1, ho =>
      simp at ho
      subst ho
      refine step_plain rfl ?_
      have e1 := hF.was 1 (v := .pointer (some ⟨p.N, 0, none⟩)) (by kernel_rfl) rfl
      have h3 : L.getD 3 false = false := hF.later' (hF.later hl 2 rfl (e := ⟨1, .data⟩) (by simp) rfl rfl) 3 rfl (e := ⟨2, .data⟩) (by simp) rfl rfl
      have h4 : L.getD 4 false = false := hF.later' h3 4 rfl (e := ⟨3, .data⟩) (by simp) rfl rfl
      obtain ⟨c0, c1⟩ := hR.cell h4
      have hgoal : RC p a b (upd val 1 (.slice p.AV p.n p.c)) (L.setIfInBounds 1 true) y := by
        obtain ⟨r0, r1, r2, r3, r4, r5, r6⟩ := hR
        refine ⟨?_, fun _ => rfl, ?_, ?_, ?_, ?_, ?_⟩
        all_goals simp only [getD_set_other (show 1 ≠ 0 by omega), getD_set_other (show 1 ≠ 2 by omega), getD_set_other (show 1 ≠ 3 by omega), getD_set_other (show 1 ≠ 4 by omega), upd_other (show 0 ≠ 1 by omega), upd_other (show 2 ≠ 1 by omega), upd_other (show 3 ≠ 1 by omega)]
        all_goals assumption
      clear hF hpre hl hR h4 h3
      go_simp
      exact ⟨_, rfl, hgoal⟩
    | 2, ho =>
      simp at ho
      subst ho
      refine step_plain rfl ?_
      have e11 := hF.gave 1 rfl (hpre ⟨1, .data⟩ (by simp) rfl) (hR.2.1 (hpre ⟨1, .data⟩ (by simp) rfl))
      have hgoal : RC p a b (upd val 2 (.int .i64 p.n)) (L.setIfInBounds 2 true) y := by
        obtain ⟨r0, r1, r2, r3, r4, r5, r6⟩ := hR
        refine ⟨?_, ?_, fun _ => rfl, ?_, ?_, ?_, ?_⟩
        all_goals simp only [getD_set_other (show 2 ≠ 0 by omega), getD_set_other (show 2 ≠ 1 by omega), getD_set_other (show 2 ≠ 3 by omega), getD_set_other (show 2 ≠ 4 by omega), upd_other (show 0 ≠ 2 by omega), upd_other (show 1 ≠ 2 by omega), upd_other (show 3 ≠ 2 by omega)]
        all_goals assumption
      clear hF hpre hl hR
      go_simp
      exact ⟨_, rfl, hgoal⟩
    | 3, ho =>
      simp at ho
      subst ho
      refine step_plain rfl ?_
      have e12 := hF.gave 2 rfl (hpre ⟨2, .data⟩ (by simp) rfl) (hR.2.2.1 (hpre ⟨2, .data⟩ (by simp) rfl))
      have h3 : L.getD 3 false = false := hF.none hl (by decide)
      have h4 : L.getD 4 false = false := hF.later hl 4 rfl (e := ⟨3, .data⟩) (by simp) rfl rfl
      have hs : 3 < L.size := by rw [hF.lsize]; decide
      have hX := hR.2.2.2.2.2.2 h3
      have hgoal : RC p a b (upd val 3 (.slice (some ⟨y.heap.size, 0, none⟩) 0 p.n)) (L.setIfInBounds 3 true) (y.alloc (.cells (madeCells #[.int .i64 0] p.n) 3)) := by
        obtain ⟨r0, r1, r2, r3, r4, r5, r6⟩ := hR
        refine ⟨?_, ?_, ?_, fun _ => by rw [upd_same, hX.size], fun h => ?_, fun _ _ => hX.make, fun h => ?_⟩
        · simp only [getD_set_other (show 3 ≠ 0 by omega), upd_other (show 0 ≠ 3 by omega)]; assumption
        · simp only [getD_set_other (show 3 ≠ 1 by omega), upd_other (show 1 ≠ 3 by omega)]; assumption
        · simp only [getD_set_other (show 3 ≠ 2 by omega), upd_other (show 2 ≠ 3 by omega)]; assumption
        · rw [getD_set_other (by omega : 3 ≠ 4), h4] at h; cases h
        · rw [getD_set_eq hs] at h; cases h
      have hrun := HM.out y
      clear hF hpre hl hR h4 h3 hX
      exact wpIn_make_run rfl (by simp [Act.eval]) (by simpa [Act.eval] using e12) hrun ⟨_, rfl, hgoal⟩
    | 4, ho =>
      simp at ho
      subst ho
      refine step_plain rfl ?_
      have e10 := hF.gave 0 rfl (hpre ⟨0, .data⟩ (by simp) rfl) (hR.1 (hpre ⟨0, .data⟩ (by simp) rfl))
      have h3 := hpre ⟨3, .data⟩ (by simp) rfl
      have e13 := hF.gave 3 rfl h3 (hR.2.2.2.1 h3)
      have h4 : L.getD 4 false = false := hF.none hl (by decide)
      have hs : 4 < L.size := by rw [hF.lsize]; decide
      have hE := Lib.hid (hR.2.2.2.2.2.1 h4 h3)
      have hgoal : ∀ v W', EX p a b (List.replicate 8 false) [] W' → RC p a b (upd val 4 v) (L.setIfInBounds 4 true) W' := fun v W' hE => by
        obtain ⟨r0, r1, r2, r3, r4, r5, r6⟩ := hR
        refine ⟨?_, ?_, ?_, ?_, fun _ => hE, fun h => ?_, fun h => ?_⟩
        · simp only [getD_set_other (show 4 ≠ 0 by omega), upd_other (show 0 ≠ 4 by omega)]; assumption
        · simp only [getD_set_other (show 4 ≠ 1 by omega), upd_other (show 1 ≠ 4 by omega)]; assumption
        · simp only [getD_set_other (show 4 ≠ 2 by omega), upd_other (show 2 ≠ 4 by omega)]; assumption
        · simp only [getD_set_other (show 4 ≠ 3 by omega), upd_other (show 3 ≠ 4 by omega)]; assumption
        · rw [getD_set_eq hs] at h; cases h
        · rw [getD_set_other (by omega : 4 ≠ 3), h3] at h; cases h
      clear hF hpre hl hR h4 h3
      go_simp
      refine ⟨trivial, ?_⟩
      refine CallsIn.mono (callsIn_wide.2 (HI.out y hE.out)) ?_
      rintro e w9 ⟨rfl, hE9⟩
      exact ⟨_, rfl, hgoal _ _ hE9⟩
    | i + 5, ho => simp at ho
  case hend =>
    intro val L b' y hF hall hR
    have e := hF.all (by kernel_rfl) hall
    have hE2 := hR.2.2.2.2.1 (hall 4 (by decide))
    have c2 : y.cell? ⟨p.w0.heap.size + 1 + 1 + 1, 0, none⟩ = some (.int .i64 a) := cellOf hE2.f (o := 0) rfl
    have c3 : y.cell? ⟨p.w0.heap.size + 1 + 1 + 1, 1, none⟩ = some (.int .i64 b) := cellOf hE2.f (o := 1) rfl
    have c4 : y.cell? ⟨p.w0.heap.size + 1, 0, none⟩ = some (.int .i64 0) := cellOf hE2.r (o := 0) rfl
    have c5 : y.cell? ⟨p.w0.heap.size + 1, 1, none⟩ = some (.int .i64 0) := cellOf hE2.r (o := 1) rfl
    have f4 : y.frozen? ⟨p.w0.heap.size + 1, 0, none⟩ = false := freeOf hE2.r (o := 0)
    have f5 : y.frozen? ⟨p.w0.heap.size + 1, 1, none⟩ = false := freeOf hE2.r (o := 1)
    have HB : Hid (Below p.w0.heap.size p.w0 y) := Lib.hid hE2.below
    clear hF hall hR hPX hE2
    subst e
    simp [final, dstOf, List.range, List.range.loop]
    have d0 : (y.setCell ⟨p.w0.heap.size + 1, 0, none⟩ (.int .i64 a)).cell? ⟨p.w0.heap.size + 1, 0, none⟩ = some (.int .i64 a) := World.cell?_setCell_same' _ _ _ (by rw [c4]; rfl)
    have d1 : ((y.setCell ⟨p.w0.heap.size + 1, 0, none⟩ (.int .i64 a)).setCell ⟨p.w0.heap.size + 1, 1, none⟩ (.int .i64 b)).cell? ⟨p.w0.heap.size + 1, 1, none⟩ = some (.int .i64 b) :=
      World.cell?_setCell_same' _ _ _ (by rw [World.cell?_setCell_other _ _ _ _ (by simp), c5]; rfl)
    go_wp2
    refine bodyPost_ret (v := .agg #[.int .i64 a, .int .i64 b]) (by simp [results, Try.results68, go_sem, d0, d1]) rfl ?_
    exact ⟨rfl, (HB.out.setCell (p := ⟨p.w0.heap.size + 1, 0, none⟩) (by show _ ≤ p.w0.heap.size + 1; omega) _).setCell (p := ⟨p.w0.heap.size + 1, 1, none⟩) (by show _ ≤ p.w0.heap.size + 1; omega) _⟩

theorem chance_any (A : Option Addr) (n c B : Nat) (V : List Int) (w : World) (hx : V.length = n) (h1 : 1 ≤ n) (h8 : n ≤ 8) (hc : n ≤ c) (hB : B ≤ w.heap.size) (h : RI w B A V) :
    Calls Try.prog 68 #[.slice A n c] w fun e w' => e = .returned (.agg #[.int .i64 (lst V).1, .int .i64 (lst V).2]) ∧ Below w.heap.size w w' :=
  chance_p ⟨w, A, n, c, V, trL V, B⟩ ⟨hx, h1, h8, hB, h⟩ rfl hc

end Go.Proofs.Ytliocbjmledfbaa

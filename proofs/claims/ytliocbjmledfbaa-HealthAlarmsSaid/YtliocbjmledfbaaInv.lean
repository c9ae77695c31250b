/- A region that draws its order, by an invariant: one step an operation, in whatever order. -/
import Derived.OrdersIn
import Derived.CallsIn
import Derived.ControlIn
import Derived.Laws.World
namespace Go.Proofs.Ytliocbjmledfbaa

section
variable {F : Fence} {n : Nat} {P : Program} {ops : Array Oper} {Q : Exit → Act → World → Prop}

def dstOf (ops : Array Oper) (i : Nat) : Option Tmp := (ops[i]?).bind (·.dst)

/-- Each operation writes a slot of its own, that the frame has; and each waits for earlier ones alone. -/
def regionB (ops : Array Oper) (N : Nat) : Bool :=
  (List.range ops.size).all fun i =>
    ((ops[i]?).map fun o => o.after.all fun e => !Region.binds .any e || decide (e.on < i)).getD true &&
    match dstOf ops i with
    | none => true
    | some s => decide (s < N) && (List.range ops.size).all fun j => decide (i = j) || dstOf ops j != some s

structure Fr (ops : Array Oper) (T : Array Value) (val : Nat → Value) (L : Array Bool) (a : Act) : Prop where
  defers : a.defers = []
  size : a.tmps.size = T.size
  lsize : L.size = ops.size
  done : ∀ i s, dstOf ops i = some s → L.getD i false = true → a.tmps.getD s undef = val i
  base : ∀ s, (∀ i, dstOf ops i = some s → L.getD i false = false) → a.tmps.getD s undef = T.getD s undef
  closed : ∀ j o, ops[j]? = some o → L.getD j false = true → ∀ e ∈ o.after, Region.binds .any e = true → L.getD e.on false = true

theorem getD_same {L : Array Bool} {i : Nat} (h : i < L.size) : L.getD i true = L.getD i false := by simp [h]
theorem getD_set_eq {L : Array Bool} {i : Nat} (h : i < L.size) : (L.setIfInBounds i true).getD i false = true := by simp [h]
theorem getD_set_other {L : Array Bool} {i j : Nat} (h : i ≠ j) : (L.setIfInBounds i true).getD j false = L.getD j false := by
  simp [h]

theorem Fr.put {T : Array Value} {val : Nat → Value} {L : Array Bool} {a : Act} {i : Nat} {o : Oper} (h : Fr ops T val L a) (hB : regionB ops T.size = true) (ho : ops[i]? = some o) (hl : L.getD i true = false) (hpre : ∀ e ∈ o.after, Region.binds .any e = true → L.getD e.on false = true) :
    Fr ops T val (L.setIfInBounds i true) (a.put o.dst (val i)) := by
  have hi : i < ops.size := (Array.getElem?_eq_some_iff.1 ho).1
  have hiL : i < L.size := by rw [h.lsize]; exact hi
  have hd : dstOf ops i = o.dst := by unfold dstOf; rw [ho]; rfl
  have hl' : L.getD i false = false := by rw [← getD_same hiL]; exact hl
  have hB' := List.all_eq_true.1 hB i (List.mem_range.2 hi)
  rw [Bool.and_eq_true] at hB'
  have hB2 := hB'.2
  have hcl : ∀ j oj, ops[j]? = some oj → (L.setIfInBounds i true).getD j false = true → ∀ e ∈ oj.after, Region.binds .any e = true → (L.setIfInBounds i true).getD e.on false = true := by
    intro j oj hoj hlj e he hb
    have key : L.getD e.on false = true := by
      by_cases hij : i = j
      · subst hij
        rw [ho] at hoj
        cases hoj
        exact hpre e he hb
      · rw [getD_set_other hij] at hlj
        exact h.closed j oj hoj hlj e he hb
    by_cases hie : i = e.on
    · rw [← hie]; exact getD_set_eq hiL
    · rw [getD_set_other hie]; exact key
  cases hs : o.dst with
  | none =>
    refine ⟨h.defers, h.size, by simpa using h.lsize, fun j s hj hlj => ?_, fun s hn => ?_, hcl⟩
    · have hne : i ≠ j := fun e => by subst e; rw [hd, hs] at hj; cases hj
      rw [getD_set_other hne] at hlj
      exact h.done j s hj hlj
    · refine h.base s fun j hj => ?_
      have hne : i ≠ j := fun e => by subst e; rw [hd, hs] at hj; cases hj
      have := hn j hj
      rwa [getD_set_other hne] at this
  | some s0 =>
    rw [hd, hs] at hB2
    simp only [Bool.and_eq_true, decide_eq_true_eq] at hB2
    obtain ⟨hlt, hall⟩ := hB2
    have huniq : ∀ j, dstOf ops j = some s0 → i = j := fun j hj => by
      have hjl : j < ops.size := by
        unfold dstOf at hj
        cases hoj : ops[j]? with
        | none => rw [hoj] at hj; cases hj
        | some oj => exact (Array.getElem?_eq_some_iff.1 hoj).1
      have := List.all_eq_true.1 hall j (List.mem_range.2 hjl)
      simp only [Bool.or_eq_true, decide_eq_true_eq, bne_iff_ne, ne_eq] at this
      exact this.resolve_right (fun hne => hne hj)
    have hput : (a.put (some s0) (val i)).tmps = a.tmps.setIfInBounds s0 (val i) := rfl
    refine ⟨h.defers, by rw [hput]; simpa using h.size, by simpa using h.lsize, fun j s hj hlj => ?_, fun s hn => ?_, hcl⟩
    · rw [hput]
      by_cases hji : i = j
      · subst hji
        rw [hd, hs] at hj
        cases hj
        have : s0 < a.tmps.size := by rw [h.size]; exact hlt
        simp [this]
      · rw [getD_set_other hji] at hlj
        have hne : s0 ≠ s := fun e => by subst e; exact hji (huniq j hj)
        have := h.done j s hj hlj
        simpa [Array.getElem?_setIfInBounds, hne] using this
    · rw [hput]
      have hne : s0 ≠ s := fun e => by
        subst e
        have := hn i (by rw [hd, hs])
        rw [getD_set_eq hiL] at this
        cases this
      have := h.base s fun j hj => by
        have hne : i ≠ j := fun e => by subst e; rw [hd, hs] at hj; cases hj; exact hne rfl
        have := hn j hj
        rwa [getD_set_other hne] at this
      simpa [Array.getElem?_setIfInBounds, hne] using this

theorem getD_replicate_no (m j : Nat) : (Array.replicate m false).getD j false = false := by
  rcases Nat.lt_or_ge j m with h | h
  · simp [h]
  · simp [h]

theorem step_plain {o : Oper} {y : Nat → Option Bool} {A B : Prop} (hg : o.guard = none) (h : A) : if Region.wanted o y then A else B := by
  have : Region.wanted o y = true := by unfold Region.wanted; rw [hg]
  rw [if_pos this]
  exact h

def noDst (ops : Array Oper) (s : Tmp) : Bool := (List.range ops.size).all fun j => dstOf ops j != some s
theorem Fr.was {T : Array Value} {val : Nat → Value} {L : Array Bool} {a : Act} (h : Fr ops T val L a) (s : Tmp) {v : Value} (hs : noDst ops s = true) (hv : T.getD s undef = v) : a.tmps[s]?.getD undef = v := by
  rw [← Array.getD_eq_getD_getElem?]
  exact (h.base s fun i hi => by
    have hil : i < ops.size := by
      unfold dstOf at hi
      cases hoj : ops[i]? with
      | none => rw [hoj] at hi; cases hi
      | some oj => exact (Array.getElem?_eq_some_iff.1 hoj).1
    have := List.all_eq_true.1 hs i (List.mem_range.2 hil)
    simp [hi] at this).trans hv
theorem Fr.gave {T : Array Value} {val : Nat → Value} {L : Array Bool} {a : Act} (h : Fr ops T val L a) (i : Nat) {s : Tmp} {v : Value} (hi : dstOf ops i = some s) (hl : L.getD i false = true) (hv : val i = v) : a.tmps[s]?.getD undef = v := by
  rw [← Array.getD_eq_getD_getElem?]
  exact (h.done i s hi hl).trans hv
/-- An operation for which j waits has not come up: so j has not, either. -/
theorem Fr.later {T : Array Value} {val : Nat → Value} {L : Array Bool} {a : Act} (h : Fr ops T val L a) {i : Nat} (hl : L.getD i true = false) (j : Nat) {o : Oper} (ho : ops[j]? = some o) {e : Edge} (he : e ∈ o.after) (hb : Region.binds .any e = true) (hi : e.on = i) : L.getD j false = false := by
  cases hj : L.getD j false with
  | false => rfl
  | true =>
    have h1 := h.closed j o ho hj e he hb
    rw [hi] at h1
    by_cases hlt : i < L.size
    · rw [getD_same hlt] at hl
      rw [hl] at h1
      cases h1
    · simp [hlt] at hl

/-- How many operations are not yet listed. -/
def left (N : Nat) (L : Array Bool) : Nat := (List.range N).countP fun i => !L.getD i true
theorem left_set {L : Array Bool} {i : Nat} (hi : i < L.size) (hl : L.getD i true = false) : left L.size (L.setIfInBounds i true) + 1 ≤ left L.size L := by
  unfold left
  have hmem : i ∈ List.range L.size := List.mem_range.2 hi
  obtain ⟨l1, l2, hsplit⟩ := List.append_of_mem hmem
  rw [hsplit]
  simp only [List.countP_append, List.countP_cons]
  have hnd : (List.range L.size).Nodup := List.nodup_range
  rw [hsplit] at hnd
  have hn1 : ∀ x ∈ l1, i ≠ x := fun x hx e => by
    subst e
    have := (List.nodup_append.1 hnd).2.2 i hx i (by simp)
    exact this rfl
  have hn2 : ∀ x ∈ l2, i ≠ x := fun x hx e => by
    subst e
    have := (List.nodup_append.1 hnd).2.1
    rw [List.nodup_cons] at this
    exact this.1 hx
  have e1 : l1.countP (fun j => !(L.setIfInBounds i true).getD j true) = l1.countP (fun j => !L.getD j true) :=
    List.countP_congr fun x hx => by rw [getD_set_ne true (hn1 x hx)]
  have e2 : l2.countP (fun j => !(L.setIfInBounds i true).getD j true) = l2.countP (fun j => !L.getD j true) :=
    List.countP_congr fun x hx => by rw [getD_set_ne true (hn2 x hx)]
  have e3 : (L.setIfInBounds i true).getD i true = true := by simp
  rw [e1, e2, hl, e3]
  simp
  omega

theorem anyIn_inv {T : Array Value} {val : Nat → Value} {R : Array Bool → World → Prop} (hB : regionB ops T.size = true)
    (hstep : ∀ i o, ops[i]? = some o → ∀ L b W, Fr ops T val L b → R L W → (∀ e ∈ o.after, Region.binds .any e = true → L.getD e.on false = true) → L.getD i true = false →
      if Region.wanted o (yielded ops b.tmps) then o.wpIn F n P b W (fun b' W' => b' = b.put o.dst (val i) ∧ R (L.setIfInBounds i true) W') Q
      else (∀ f, o.about P W b.eval = some f → F.fn f) ∧ val i = undef ∧ R (L.setIfInBounds i true) W)
    (hend : ∀ L b W, Fr ops T val L b → (∀ i, i < ops.size → L.getD i false = true) → R L W → Q .normal b W) :
    ∀ fuel L b W, Fr ops T val L b → R L W → left ops.size L ≤ fuel → wpAnyIn F n P .any ops Q fuel L b W := by
  have hnone : ∀ L b W, Fr ops T val L b → R L W → Region.ready .any ops L = [] → Q .normal b W := by
    intro L b W hF hR hr
    refine hend L b W hF ?_ hR
    intro i
    induction i using Nat.strongRecOn with
    | ind i ih =>
      intro hi
      cases hl : L.getD i false with
      | true => rfl
      | false =>
        have hiL : i < L.size := by rw [hF.lsize]; exact hi
        have ho : ops[i]? = some ops[i] := Array.getElem?_eq_getElem hi
        have hB' := List.all_eq_true.1 hB i (List.mem_range.2 hi)
        rw [Bool.and_eq_true] at hB'
        have hB1 := hB'.1
        rw [ho] at hB1
        simp only [Option.map_some, Option.getD_some, Array.all_eq_true_iff_forall_mem, Bool.or_eq_true, Bool.not_eq_true', decide_eq_true_eq] at hB1
        have : i ∈ Region.ready .any ops L := mem_ready.2 ⟨by rw [getD_same hiL]; exact hl, _, ho, fun e he hb => by
          have hlt := (hB1 e he).resolve_left (by rw [hb]; simp)
          exact ih e.on hlt (by omega)⟩
        rw [hr] at this
        cases this
  intro fuel
  induction fuel with
  | zero =>
    intro L b W hF hR hle
    have hr : Region.ready .any ops L = [] := by
      rw [List.eq_nil_iff_forall_not_mem]
      intro i hi
      obtain ⟨hl, o, ho, _⟩ := mem_ready.1 hi
      have hio : i < ops.size := (Array.getElem?_eq_some_iff.1 ho).1
      have hpos : 0 < left ops.size L := List.countP_pos_iff.2 ⟨i, List.mem_range.2 hio, by rw [hl]; rfl⟩
      omega
    exact ⟨hr, hnone L b W hF hR hr⟩
  | succ fuel ih =>
    intro L b W hF hR hle
    refine ⟨hnone L b W hF hR, fun i hi => ?_⟩
    obtain ⟨hl, o, ho, hpre⟩ := mem_ready.1 hi
    have hio : i < ops.size := (Array.getElem?_eq_some_iff.1 ho).1
    have hiL : i < L.size := by rw [hF.lsize]; exact hio
    have hs := hstep i o ho L b W hF hR hpre hl
    have hls := left_set hiL hl
    rw [hF.lsize] at hls
    have hF' := hF.put hB ho hl hpre
    unfold wpOpIn
    rw [ho]
    dsimp only
    split
    · rename_i hw
      rw [if_pos hw] at hs
      refine Oper.wpIn_mono ?_ hs
      rintro a w ⟨rfl, hR'⟩
      exact ih _ _ _ hF' hR' (by omega)
    · rename_i hw
      rw [if_neg hw] at hs
      refine ⟨hs.1, ?_⟩
      rw [← hs.2.1]
      exact ih _ _ _ hF' hs.2.2 (by omega)

/-- THE RULE: a region that draws its order: each operation, wherever it may come up, gives its slot the value that belongs to it and keeps R. -/
theorem region_inv {id : Nat} {a : Act} {w : World} (hm : P.follows .mixedOrders = true) (val : Nat → Value) (R : Array Bool → World → Prop) (hB : regionB ops a.tmps.size = true) (hd : a.defers = [])
    (h0 : R (Array.replicate ops.size false) w.drew)
    (hstep : ∀ i o, ops[i]? = some o → ∀ L b W, Fr ops a.tmps val L b → R L W → (∀ e ∈ o.after, Region.binds .any e = true → L.getD e.on false = true) → L.getD i true = false →
      if Region.wanted o (yielded ops b.tmps) then o.wpIn F n P b W (fun b' W' => b' = b.put o.dst (val i) ∧ R (L.setIfInBounds i true) W') Q
      else (∀ f, o.about P W b.eval = some f → F.fn f) ∧ val i = undef ∧ R (L.setIfInBounds i true) W)
    (hend : ∀ L b W, Fr ops a.tmps val L b → (∀ i, i < ops.size → L.getD i false = true) → R L W → Q .normal b W) : (Code.region id ops true).wpIn F n P Q a w := by
  refine wpIn_region_any hm (anyIn_inv hB hstep hend _ _ _ _ ⟨hd, rfl, by simp, fun i s _ hl => ?_, fun s _ => rfl, fun j o _ hl => ?_⟩ h0 ?_)
  · rw [getD_replicate_no] at hl; cases hl
  · rw [getD_replicate_no] at hl; cases hl
  · unfold left; exact Nat.le_trans List.countP_le_length (by simp)

/-! ### The same, where a value hangs on the order (the address of a new block): the values are part of the state. -/
def upd (val : Nat → Value) (i : Nat) (v : Value) : Nat → Value := fun j => if j = i then v else val j
theorem upd_same (val : Nat → Value) (i : Nat) (v : Value) : upd val i v i = v := by simp [upd]
theorem upd_other {val : Nat → Value} {i j : Nat} {v : Value} (h : j ≠ i) : upd val i v j = val j := by simp [upd, h]
theorem Fr.upd_ {T : Array Value} {val : Nat → Value} {L : Array Bool} {a : Act} {i : Nat} {v : Value} (h : Fr ops T val L a) (hi : i < ops.size) (hl : L.getD i true = false) : Fr ops T (upd val i v) L a :=
  ⟨h.defers, h.size, h.lsize, fun j s hj hlj => by
    have hne : j ≠ i := fun e => by
      subst e
      rw [getD_same (by rw [h.lsize]; exact hi), hlj] at hl
      cases hl
    rw [upd_other hne]
    exact h.done j s hj hlj, h.base, h.closed⟩

theorem anyIn_inv2 {T : Array Value} {R : (Nat → Value) → Array Bool → World → Prop} (hB : regionB ops T.size = true)
    (hstep : ∀ i o, ops[i]? = some o → ∀ val L b W, Fr ops T val L b → R val L W → (∀ e ∈ o.after, Region.binds .any e = true → L.getD e.on false = true) → L.getD i true = false →
      if Region.wanted o (yielded ops b.tmps) then o.wpIn F n P b W (fun b' W' => ∃ v, b' = b.put o.dst v ∧ R (upd val i v) (L.setIfInBounds i true) W') Q
      else (∀ f, o.about P W b.eval = some f → F.fn f) ∧ R (upd val i undef) (L.setIfInBounds i true) W)
    (hend : ∀ val L b W, Fr ops T val L b → (∀ i, i < ops.size → L.getD i false = true) → R val L W → Q .normal b W) :
    ∀ fuel val L b W, Fr ops T val L b → R val L W → left ops.size L ≤ fuel → wpAnyIn F n P .any ops Q fuel L b W := by
  have hnone : ∀ val L b W, Fr ops T val L b → R val L W → Region.ready .any ops L = [] → Q .normal b W := by
    intro val L b W hF hR hr
    refine hend val L b W hF ?_ hR
    intro i
    induction i using Nat.strongRecOn with
    | ind i ih =>
      intro hi
      cases hl : L.getD i false with
      | true => rfl
      | false =>
        have hiL : i < L.size := by rw [hF.lsize]; exact hi
        have ho : ops[i]? = some ops[i] := Array.getElem?_eq_getElem hi
        have hB' := List.all_eq_true.1 hB i (List.mem_range.2 hi)
        rw [Bool.and_eq_true] at hB'
        have hB1 := hB'.1
        rw [ho] at hB1
        simp only [Option.map_some, Option.getD_some, Array.all_eq_true_iff_forall_mem, Bool.or_eq_true, Bool.not_eq_true', decide_eq_true_eq] at hB1
        have : i ∈ Region.ready .any ops L := mem_ready.2 ⟨by rw [getD_same hiL]; exact hl, _, ho, fun e he hb => by
          have hlt := (hB1 e he).resolve_left (by rw [hb]; simp)
          exact ih e.on hlt (by omega)⟩
        rw [hr] at this
        cases this
  intro fuel
  induction fuel with
  | zero =>
    intro val L b W hF hR hle
    have hr : Region.ready .any ops L = [] := by
      rw [List.eq_nil_iff_forall_not_mem]
      intro i hi
      obtain ⟨hl, o, ho, _⟩ := mem_ready.1 hi
      have hio : i < ops.size := (Array.getElem?_eq_some_iff.1 ho).1
      have hpos : 0 < left ops.size L := List.countP_pos_iff.2 ⟨i, List.mem_range.2 hio, by rw [hl]; rfl⟩
      omega
    exact ⟨hr, hnone val L b W hF hR hr⟩
  | succ fuel ih =>
    intro val L b W hF hR hle
    refine ⟨hnone val L b W hF hR, fun i hi => ?_⟩
    obtain ⟨hl, o, ho, hpre⟩ := mem_ready.1 hi
    have hio : i < ops.size := (Array.getElem?_eq_some_iff.1 ho).1
    have hiL : i < L.size := by rw [hF.lsize]; exact hio
    have hs := hstep i o ho val L b W hF hR hpre hl
    have hls := left_set hiL hl
    rw [hF.lsize] at hls
    have hput : ∀ v, Fr ops T (upd val i v) (L.setIfInBounds i true) (b.put o.dst v) := fun v => by
      have := (hF.upd_ (v := v) hio hl).put hB ho hl hpre
      rwa [upd_same] at this
    unfold wpOpIn
    rw [ho]
    dsimp only
    split
    · rename_i hw
      rw [if_pos hw] at hs
      refine Oper.wpIn_mono ?_ hs
      rintro a w ⟨v, rfl, hR'⟩
      exact ih _ _ _ _ (hput v) hR' (by omega)
    · rename_i hw
      rw [if_neg hw] at hs
      exact ⟨hs.1, ih _ _ _ _ (hput undef) hs.2 (by omega)⟩

theorem region_inv2 {id : Nat} {a : Act} {w : World} (hm : P.follows .mixedOrders = true) (R : (Nat → Value) → Array Bool → World → Prop) (hB : regionB ops a.tmps.size = true) (hd : a.defers = [])
    (h0 : R (fun _ => undef) (Array.replicate ops.size false) w.drew)
    (hstep : ∀ i o, ops[i]? = some o → ∀ val L b W, Fr ops a.tmps val L b → R val L W → (∀ e ∈ o.after, Region.binds .any e = true → L.getD e.on false = true) → L.getD i true = false →
      if Region.wanted o (yielded ops b.tmps) then o.wpIn F n P b W (fun b' W' => ∃ v, b' = b.put o.dst v ∧ R (upd val i v) (L.setIfInBounds i true) W') Q
      else (∀ f, o.about P W b.eval = some f → F.fn f) ∧ R (upd val i undef) (L.setIfInBounds i true) W)
    (hend : ∀ val L b W, Fr ops a.tmps val L b → (∀ i, i < ops.size → L.getD i false = true) → R val L W → Q .normal b W) : (Code.region id ops true).wpIn F n P Q a w := by
  refine wpIn_region_any hm (anyIn_inv2 hB hstep hend _ _ _ _ _ ⟨hd, rfl, by simp, fun i s _ hl => ?_, fun s _ => rfl, fun j o _ hl => ?_⟩ h0 ?_)
  · rw [getD_replicate_no] at hl; cases hl
  · rw [getD_replicate_no] at hl; cases hl
  · unfold left; exact Nat.le_trans List.countP_le_length (by simp)

/-- The frame behind the region, written out. -/
def final (ops : Array Oper) (T : Array Value) (val : Nat → Value) : List Nat → Array Value
  | [] => T
  | i :: l => match dstOf ops i with
    | some s => (final ops T val l).setIfInBounds s (val i)
    | none => final ops T val l
theorem final_size (ops : Array Oper) (T : Array Value) (val : Nat → Value) : ∀ l, (final ops T val l).size = T.size
  | [] => rfl
  | i :: l => by
    unfold final
    split
    · simp [final_size ops T val l]
    · exact final_size ops T val l
theorem final_base (ops : Array Oper) (T : Array Value) (val : Nat → Value) (s : Tmp) : ∀ l, (∀ i ∈ l, dstOf ops i ≠ some s) → (final ops T val l)[s]? = T[s]?
  | [], _ => rfl
  | i :: l, h => by
    unfold final
    split
    · rename_i s' hs
      have hne : s' ≠ s := fun e => h i (by simp) (by rw [hs, e])
      rw [Array.getElem?_setIfInBounds]
      simp only [hne, if_false]
      exact final_base ops T val s l fun j hj => h j (by simp [hj])
    · exact final_base ops T val s l fun j hj => h j (by simp [hj])
theorem final_done (ops : Array Oper) (T : Array Value) (val : Nat → Value) (s : Tmp) (hs : s < T.size) (i : Nat) (hi : dstOf ops i = some s) (hu : ∀ j, dstOf ops j = some s → i = j) : ∀ l, i ∈ l → (final ops T val l)[s]? = some (val i)
  | [], h => by simp at h
  | j :: l, h => by
    unfold final
    by_cases hij : i = j
    · subst hij
      rw [hi]
      simp [final_size, hs]
    · have hmem : i ∈ l := by simpa [hij] using h
      have ih := final_done ops T val s hs i hi hu l hmem
      split
      · rename_i s' hs'
        have hne : s' ≠ s := fun e => by subst e; exact hij (hu j hs')
        rw [Array.getElem?_setIfInBounds]
        simp only [hne, if_false]
        exact ih
      · exact ih
theorem Fr.all {T : Array Value} {val : Nat → Value} {L : Array Bool} {a : Act} (h : Fr ops T val L a) (hB : regionB ops T.size = true) (hall : ∀ i, i < ops.size → L.getD i false = true) : a = { tmps := final ops T val (List.range ops.size), defers := [] } := by
  have hlt : ∀ i s, dstOf ops i = some s → i < ops.size := fun i s hi => by
    unfold dstOf at hi
    cases hoj : ops[i]? with
    | none => rw [hoj] at hi; cases hi
    | some oj => exact (Array.getElem?_eq_some_iff.1 hoj).1
  have key : a.tmps = final ops T val (List.range ops.size) := by
    apply Array.ext (by rw [final_size]; exact h.size)
    intro s h1 h2
    have hsT : s < T.size := by rw [← h.size]; exact h1
    have e : a.tmps[s]? = (final ops T val (List.range ops.size))[s]? := by
      by_cases hex : ∃ i, dstOf ops i = some s
      · obtain ⟨i, hi⟩ := hex
        have hil := hlt i s hi
        have hu : ∀ j, dstOf ops j = some s → i = j := fun j hj => by
          have hB' := List.all_eq_true.1 hB i (List.mem_range.2 hil)
          rw [Bool.and_eq_true] at hB'
          have hB2 := hB'.2
          rw [hi] at hB2
          simp only [Bool.and_eq_true, decide_eq_true_eq] at hB2
          have := List.all_eq_true.1 hB2.2 j (List.mem_range.2 (hlt j s hj))
          simp only [Bool.or_eq_true, decide_eq_true_eq, bne_iff_ne, ne_eq] at this
          exact this.resolve_right (fun hne => hne hj)
        rw [final_done ops T val s hsT i hi hu _ (List.mem_range.2 hil)]
        have := h.done i s hi (hall i hil)
        rw [Array.getElem?_eq_getElem h1]
        simpa [h1] using this
      · have hno : ∀ i, dstOf ops i ≠ some s := fun i hi => hex ⟨i, hi⟩
        rw [final_base ops T val s _ fun i _ => hno i]
        have := h.base s fun i hi => absurd hi (hno i)
        rw [Array.getElem?_eq_getElem h1, Array.getElem?_eq_getElem hsT]
        simpa [h1, hsT] using this
    rw [Array.getElem?_eq_getElem h1, Array.getElem?_eq_getElem h2] at e
    exact Option.some.inj e
  cases a
  simp only at key
  have hd := h.defers
  simp only at hd
  rw [key, hd]

end
end Go.Proofs.Ytliocbjmledfbaa

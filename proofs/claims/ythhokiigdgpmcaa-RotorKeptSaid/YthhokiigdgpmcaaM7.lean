/- Contracts of the functions that the statement reaches: DRow, DCopyF, DCopy, DLook. -/
import Derived.Test.YthhokiigdgpmcaaM6
import Derived.Deep.WholeRow
import Derived.Laws.CopyOwn
import Derived.Test.YthhokiigdgpmcaaM3

/- Whole structs out of their boxes and into them. -/
namespace Go.Proofs.Ythhokiigdgpmcaa
open Go.RowKit

section
variable {w : World} {g q : Nat} {cs ds : Array Value} {T : TypeId}
theorem BK.row (h : BK w g cs T) : BK (w.setRow g ds) g ds T := setRow_heap w g cs ds T (0, 0) h
theorem BK.set2 {cs ds : Array Value} {a b : Value} {k : Nat} (h : BK w g cs T) (e : (cs.setIfInBounds k a).setIfInBounds (k + 1) b = ds) : BK ((w.setCell ⟨g, k, none⟩ a).setCell ⟨g, k + 1, none⟩ b) g ds T := by
  subst e
  exact (h.set).set
theorem BK.rowO (h : BK w q cs T) (hq : q ≠ g) : BK (w.setRow g ds) q cs T := (setRow_other w g q ds hq).trans h
end
section
variable {ops : Array Oper} {rest : List Oper} {a : Act} {w : World} {Q : Exit → Act → World → Prop} {g d s : Nat} {CS : Array Value} {T' : TypeId} {ty : TypeId} {pos : String} {after : Array Edge}

theorem szR : (Try.prog.info? 27).map (·.size) = some 26 := by kernel_rfl
theorem ldR (K : BK w g CS T') (hs : CS.size = 26) (hx : a.eval (.tmp s) = .pointer (some ⟨g, 0, none⟩)) (h : wpList Try.prog ops Q rest (a.put (some d) (.agg CS)) w) :
    wpList Try.prog ops Q (⟨some d, .load 27 (.tmp s), ty, pos, after, none⟩ :: rest) a w :=
  wpList_load_row rfl 27 (.tmp s) rfl g hx T' CS (0, 0) _ K Try.underlying27 rfl (by rw [hs]; exact szR) h
theorem stR {old : Array Value} (K : BK w g old T') (ho : old.size = 26) (hx : a.eval (.tmp s) = .pointer (some ⟨g, 0, none⟩)) (hy : a.eval (.tmp d) = .agg CS) (hs : CS.size = 26) (h1 : CS.all (·.oneCell') = true) (h : wpList Try.prog ops Q rest (a.put none undef) (w.setRow g CS)) :
    wpList Try.prog ops Q (⟨none, .store 27 (.tmp s) (.tmp d), ty, pos, after, none⟩ :: rest) a w :=
  wpList_store_row rfl 27 (.tmp s) (.tmp d) rfl g CS hx hy T' old K (by rw [hs]; exact szR) (ho.trans hs.symm) h1 h
theorem resR {fn : Func} {p : Tmp} {tmps : Array Value} (hf : fn.results = #[.cell p 27]) (hp : tmps.getD p undef = .pointer (some ⟨g, 0, none⟩)) (K : BK w g CS T') (hs : CS.size = 26) : (results fn tmps).run Try.prog w = .ok (.agg CS) w :=
  results_cell_row hf tmps w g T' CS (0, 0) _ hp K Try.underlying27 rfl (by rw [hs]; exact szR)
theorem revR {fn : Func} {p q : Tmp} {tmps : Array Value} {u : Value} (hf : fn.results = #[.cell p 27, .tmp q]) (hp : tmps.getD p undef = .pointer (some ⟨g, 0, none⟩)) (hq : tmps.getD q undef = u) (K : BK w g CS T') (hs : CS.size = 26) : (results fn tmps).run Try.prog w = .ok (.tuple #[.agg CS, u]) w := by
  have hp' : tmps[p]?.getD undef = .pointer (some ⟨g, 0, none⟩) := by simpa using hp
  have hq' : tmps[q]?.getD undef = u := by simpa using hq
  have hl := run_loadVar_row (P := Try.prog) w g T' 27 CS (0, 0) _ K Try.underlying27 rfl (by rw [hs]; exact szR)
  simp [results, hf, hp', hq', asAddr, hl]

theorem szM : (Try.prog.info? 87).map (·.size) = some 34 := by kernel_rfl
theorem ldM (K : BK w g CS T') (hs : CS.size = 34) (hx : a.eval (.tmp s) = .pointer (some ⟨g, 0, none⟩)) (h : wpList Try.prog ops Q rest (a.put (some d) (.agg CS)) w) :
    wpList Try.prog ops Q (⟨some d, .load 87 (.tmp s), ty, pos, after, none⟩ :: rest) a w :=
  wpList_load_row rfl 87 (.tmp s) rfl g hx T' CS (0, 0) _ K Try.underlying87 rfl (by rw [hs]; exact szM) h
theorem stM {old : Array Value} (K : BK w g old T') (ho : old.size = 34) (hx : a.eval (.tmp s) = .pointer (some ⟨g, 0, none⟩)) (hy : a.eval (.tmp d) = .agg CS) (hs : CS.size = 34) (h1 : CS.all (·.oneCell') = true) (h : wpList Try.prog ops Q rest (a.put none undef) (w.setRow g CS)) :
    wpList Try.prog ops Q (⟨none, .store 87 (.tmp s) (.tmp d), ty, pos, after, none⟩ :: rest) a w :=
  wpList_store_row rfl 87 (.tmp s) (.tmp d) rfl g CS hx hy T' old K (by rw [hs]; exact szM) (ho.trans hs.symm) h1 h
theorem resM {fn : Func} {p : Tmp} {tmps : Array Value} (hf : fn.results = #[.cell p 87]) (hp : tmps.getD p undef = .pointer (some ⟨g, 0, none⟩)) (K : BK w g CS T') (hs : CS.size = 34) : (results fn tmps).run Try.prog w = .ok (.agg CS) w :=
  results_cell_row hf tmps w g T' CS (0, 0) _ hp K Try.underlying87 rfl (by rw [hs]; exact szM)
theorem revM {fn : Func} {p q : Tmp} {tmps : Array Value} {u : Value} (hf : fn.results = #[.cell p 87, .tmp q]) (hp : tmps.getD p undef = .pointer (some ⟨g, 0, none⟩)) (hq : tmps.getD q undef = u) (K : BK w g CS T') (hs : CS.size = 34) : (results fn tmps).run Try.prog w = .ok (.tuple #[.agg CS, u]) w := by
  have hp' : tmps[p]?.getD undef = .pointer (some ⟨g, 0, none⟩) := by simpa using hp
  have hq' : tmps[q]?.getD undef = u := by simpa using hq
  have hl := run_loadVar_row (P := Try.prog) w g T' 87 CS (0, 0) _ K Try.underlying87 rfl (by rw [hs]; exact szM)
  simp [results, hf, hp', hq', asAddr, hl]
theorem szS : (Try.prog.info? 34).map (·.size) = some 2 := by kernel_rfl
theorem ldS (K : BK w g CS T') (hs : CS.size = 2) (hx : a.eval (.tmp s) = .pointer (some ⟨g, 0, none⟩)) (h : wpList Try.prog ops Q rest (a.put (some d) (.agg CS)) w) :
    wpList Try.prog ops Q (⟨some d, .load 34 (.tmp s), ty, pos, after, none⟩ :: rest) a w :=
  wpList_load_row rfl 34 (.tmp s) rfl g hx T' CS (0, 0) _ K Try.underlying34 rfl (by rw [hs]; exact szS) h
theorem stS {old : Array Value} (K : BK w g old T') (ho : old.size = 2) (hx : a.eval (.tmp s) = .pointer (some ⟨g, 0, none⟩)) (hy : a.eval (.tmp d) = .agg CS) (hs : CS.size = 2) (h1 : CS.all (·.oneCell') = true) (h : wpList Try.prog ops Q rest (a.put none undef) (w.setRow g CS)) :
    wpList Try.prog ops Q (⟨none, .store 34 (.tmp s) (.tmp d), ty, pos, after, none⟩ :: rest) a w :=
  wpList_store_row rfl 34 (.tmp s) (.tmp d) rfl g CS hx hy T' old K (by rw [hs]; exact szS) (ho.trans hs.symm) h1 h
theorem resS {fn : Func} {p : Tmp} {tmps : Array Value} (hf : fn.results = #[.cell p 34]) (hp : tmps.getD p undef = .pointer (some ⟨g, 0, none⟩)) (K : BK w g CS T') (hs : CS.size = 2) : (results fn tmps).run Try.prog w = .ok (.agg CS) w :=
  results_cell_row hf tmps w g T' CS (0, 0) _ hp K Try.underlying34 rfl (by rw [hs]; exact szS)
theorem revS {fn : Func} {p q : Tmp} {tmps : Array Value} {u : Value} (hf : fn.results = #[.cell p 34, .tmp q]) (hp : tmps.getD p undef = .pointer (some ⟨g, 0, none⟩)) (hq : tmps.getD q undef = u) (K : BK w g CS T') (hs : CS.size = 2) : (results fn tmps).run Try.prog w = .ok (.tuple #[.agg CS, u]) w := by
  have hp' : tmps[p]?.getD undef = .pointer (some ⟨g, 0, none⟩) := by simpa using hp
  have hq' : tmps[q]?.getD undef = u := by simpa using hq
  have hl := run_loadVar_row (P := Try.prog) w g T' 34 CS (0, 0) _ K Try.underlying34 rfl (by rw [hs]; exact szS)
  simp [results, hf, hp', hq', asAddr, hl]

theorem szA : (Try.prog.info? 36).map (·.size) = some 8 := by kernel_rfl
theorem ldA (K : BK w g CS T') (hs : CS.size = 8) (hx : a.eval (.tmp s) = .pointer (some ⟨g, 0, none⟩)) (h : wpList Try.prog ops Q rest (a.put (some d) (.agg CS)) w) :
    wpList Try.prog ops Q (⟨some d, .load 36 (.tmp s), ty, pos, after, none⟩ :: rest) a w :=
  wpList_load_row rfl 36 (.tmp s) rfl g hx T' CS (0, 0) _ K Try.underlying36 rfl (by rw [hs]; exact szA) h
theorem stA {old : Array Value} (K : BK w g old T') (ho : old.size = 8) (hx : a.eval (.tmp s) = .pointer (some ⟨g, 0, none⟩)) (hy : a.eval (.tmp d) = .agg CS) (hs : CS.size = 8) (h1 : CS.all (·.oneCell') = true) (h : wpList Try.prog ops Q rest (a.put none undef) (w.setRow g CS)) :
    wpList Try.prog ops Q (⟨none, .store 36 (.tmp s) (.tmp d), ty, pos, after, none⟩ :: rest) a w :=
  wpList_store_row rfl 36 (.tmp s) (.tmp d) rfl g CS hx hy T' old K (by rw [hs]; exact szA) (ho.trans hs.symm) h1 h
theorem resA {fn : Func} {p : Tmp} {tmps : Array Value} (hf : fn.results = #[.cell p 36]) (hp : tmps.getD p undef = .pointer (some ⟨g, 0, none⟩)) (K : BK w g CS T') (hs : CS.size = 8) : (results fn tmps).run Try.prog w = .ok (.agg CS) w :=
  results_cell_row hf tmps w g T' CS (0, 0) _ hp K Try.underlying36 rfl (by rw [hs]; exact szA)
theorem revA {fn : Func} {p q : Tmp} {tmps : Array Value} {u : Value} (hf : fn.results = #[.cell p 36, .tmp q]) (hp : tmps.getD p undef = .pointer (some ⟨g, 0, none⟩)) (hq : tmps.getD q undef = u) (K : BK w g CS T') (hs : CS.size = 8) : (results fn tmps).run Try.prog w = .ok (.tuple #[.agg CS, u]) w := by
  have hp' : tmps[p]?.getD undef = .pointer (some ⟨g, 0, none⟩) := by simpa using hp
  have hq' : tmps[q]?.getD undef = u := by simpa using hq
  have hl := run_loadVar_row (P := Try.prog) w g T' 36 CS (0, 0) _ K Try.underlying36 rfl (by rw [hs]; exact szA)
  simp [results, hf, hp', hq', asAddr, hl]


theorem inR {b : Act} {x : World} {next : Act → World → Prop} (K : BK x g CS T') (hs : CS.size = 26) (hx : b.tmps[s]?.getD undef = .pointer (some ⟨g, 0, none⟩)) (h : next (b.put (some d) (.agg CS)) x) :
    Oper.wpIn Fence.wide 9 Try.prog ⟨some d, .load 27 (.tmp s), ty, pos, after, none⟩ b x next Q := by
  refine ⟨fun _ _ => trivial, ?_⟩
  have hx' : b.eval (.tmp s) = .pointer (some ⟨g, 0, none⟩) := by simpa [Act.eval] using hx
  have e : ((⟨some d, .load 27 (.tmp s), ty, pos, after, none⟩ : Oper).semAt Fence.wide.round b.eval).run Try.prog x = .ok (.value (.agg CS)) x := by
    rw [Oper.semAt_eq _ _ _ (by intro c h; cases h)]
    unfold execOp
    simp only [hx', Instr.loadAt, Instr.sureAddr, Sem.run_bind, Sem.run_pure, Result.andThen_ok, run_loadVar_row (P := Try.prog) x g T' 27 CS (0, 0) _ K Try.underlying27 rfl (by rw [hs]; exact szR)]
  rw [e]
  exact h

theorem inM {b : Act} {x : World} {next : Act → World → Prop} (K : BK x g CS T') (hs : CS.size = 34) (hx : b.tmps[s]?.getD undef = .pointer (some ⟨g, 0, none⟩)) (h : next (b.put (some d) (.agg CS)) x) :
    Oper.wpIn Fence.wide 9 Try.prog ⟨some d, .load 87 (.tmp s), ty, pos, after, none⟩ b x next Q := by
  refine ⟨fun _ _ => trivial, ?_⟩
  have hx' : b.eval (.tmp s) = .pointer (some ⟨g, 0, none⟩) := by simpa [Act.eval] using hx
  have e : ((⟨some d, .load 87 (.tmp s), ty, pos, after, none⟩ : Oper).semAt Fence.wide.round b.eval).run Try.prog x = .ok (.value (.agg CS)) x := by
    rw [Oper.semAt_eq _ _ _ (by intro c h; cases h)]
    unfold execOp
    simp only [hx', Instr.loadAt, Instr.sureAddr, Sem.run_bind, Sem.run_pure, Result.andThen_ok, run_loadVar_row (P := Try.prog) x g T' 87 CS (0, 0) _ K Try.underlying87 rfl (by rw [hs]; exact szM)]
  rw [e]
  exact h
end
end Go.Proofs.Ythhokiigdgpmcaa

/- Copy, told with where the copy lies. -/
namespace Go.Proofs.Ythhokiigdgpmcaa
open Go.RowKit

/-- p holds in every world that keeps all blocks from M on. -/
def Frs (M : Nat) (p : World → Prop) (w : World) : Prop := ∀ W, w.heap.size ≤ W.heap.size → (∀ q, M ≤ q → q < w.heap.size → W.heap[q]? = w.heap[q]?) → p W
theorem Frs.now {M : Nat} {p : World → Prop} {w : World} (h : Frs M p w) : p w := h w (Nat.le_refl _) fun _ _ _ => rfl
theorem Frs.next {M : Nat} {p : World → Prop} {w w' : World} (h : Frs M p w) (hz : w.heap.size ≤ w'.heap.size) (hs : ∀ q, M ≤ q → q < w.heap.size → w'.heap[q]? = w.heap[q]?) : Frs M p w' :=
  fun W h1 h2 => h W (by omega) fun q hq hl => (h2 q hq (by omega)).trans (hs q hq hl)
theorem Frs.below {M : Nat} {p : World → Prop} {w w' : World} (h : Frs M p w) (hb : Below w.heap.size w w') : Frs M p w' := h.next hb.size fun q _ hl => hb.block q hl
/-- The first blocks of a world. -/
def cutW (W : World) (n : Nat) : World := { W with heap := W.heap.extract 0 n }
theorem cut_size (W : World) {n : Nat} (h : n ≤ W.heap.size) : (cutW W n).heap.size = n := by
  simp [cutW]
  omega
theorem cut_get (W : World) {n q : Nat} (h : q < n) : (cutW W n).heap[q]? = W.heap[q]? := by
  simp [cutW, Array.getElem?_extract]
  omega

set_option maxRecDepth 100000 in
set_option maxHeartbeats 1000000 in
theorem copyF_any (AX AY AV : Option Addr) (nx cx ny cy nv cv B : Nat) (X Y : List Int) (V : List (List Int)) (w : World) (hx : X.length = nx) (hy : Y.length = ny) (hv : V.length = nv) (hnx : nx ≤ 1000000) (hny : ny ≤ 1000000) (hnv : nv ≤ 1000000) (hnr : ∀ r ∈ V, r.length ≤ 1000000)
    (hB : B ≤ w.heap.size) (h : TB w B AX AY AV X Y V) :
    Calls Try.prog 108 #[.agg #[.slice AX nx cx, .slice AY ny cy, .slice AV nv cv]] w fun e w' =>
      ∃ AX' cx' AY' cy' AV' cv', e = .returned (.agg #[.slice AX' nx cx', .slice AY' ny cy', .slice AV' nv cv']) ∧ Frs w.heap.size (fun W => TB W W.heap.size AX' AY' AV' X Y V) w' ∧ Below w.heap.size w w' := by
  subst hx hy hv
  obtain ⟨i0, hi0, hz0, hz1, hz2⟩ := info_parts info_int
  obtain ⟨i1, hi1, hy0, hy1, hy2⟩ := info_parts info_ints
  go_enter Try.func108, Try.ntmps108
  go_upto_region 1 with fail
  generalize hW0 : ((w.alloc _).alloc _) = W0
  have k0 : W0.cell? ⟨w.heap.size, 0, none⟩ = some (.slice AX X.length cx) := by rw [← hW0]; clear hW0; go_simp
  have k1 : W0.cell? ⟨w.heap.size, 1, none⟩ = some (.slice AY Y.length cy) := by rw [← hW0]; clear hW0; go_simp
  have k2 : W0.cell? ⟨w.heap.size, 2, none⟩ = some (.slice AV V.length cv) := by rw [← hW0]; clear hW0; go_simp
  have k3 : ∀ k, k < 3 → W0.cell? ⟨w.heap.size + 1, k, none⟩ = some (.slice none 0 0) := by rw [← hW0]; clear hW0; intro k hk; match k, hk with | 0, _ => go_simp | 1, _ => go_simp | 2, _ => go_simp
  have k4 : ∀ k, k < 3 → W0.frozen? ⟨w.heap.size + 1, k, none⟩ = false := by rw [← hW0]; clear hW0; intro k hk; match k, hk with | 0, _ => simp [go_sem] | 1, _ => simp [go_sem] | 2, _ => simp [go_sem]
  have hB0 : Below w.heap.size w W0 := by rw [← hW0]; clear hW0; go_grown
  have hz : W0.heap.size = w.heap.size + 2 := by rw [← hW0]; clear hW0; simp
  have HZ := Lib.hid hz
  have HB0 := Lib.hid hB0
  have HX := Lib.hid (h.x.below (hB0.mono hB))
  have HY := Lib.hid (h.y.below (hB0.mono hB))
  have HV := Lib.hid (h.v.below (hB0.mono hB))
  clear hW0 hz hB0 h
  refine wpIn_wide.1 (region_inv2 (n := 9) (by kernel_rfl) (RC w AX AY X Y cx cy W0) (by kernel_rfl) rfl ⟨(by intro j u _ hl; rw [getD_replicate_no] at hl; cases hl), (by intro hl; rw [getD_replicate_no] at hl; cases hl), (Below.refl _ _).drew, 0, 0, 0, (by intro hl; rw [getD_replicate_no] at hl; cases hl), (by intro hl; rw [getD_replicate_no] at hl; cases hl), (by intro hl; rw [getD_replicate_no] at hl; cases hl), (by intro hl; rw [getD_replicate_no] at hl; cases hl), (by intro hl; rw [getD_replicate_no] at hl; cases hl), (by intro hl _; rw [getD_replicate_no] at hl; cases hl)⟩ ?hstep ?hend)
  case hstep =>
    intro i' o ho val L b' W hF hR hpre hl
    match i', ho with
    | 0, ho =>
      simp at ho
      subst ho
      refine step_plain rfl ?_
      have hs : 0 < L.size := by rw [hF.lsize]; decide
      obtain ⟨hfx, h8, hC⟩ := hR
      have l3 := hF.later hl 3 rfl (e := ⟨0, .data⟩) (by simp) rfl rfl
      have lk : L.getD 0 false = false := by rw [← getD_same hs]; exact hl
      have hgoal : RC w AX AY X Y cx cy W0 (upd val 0 (.slice (some ⟨W.heap.size, 0, none⟩) 0 0)) (L.setIfInBounds 0 true) (W.alloc (.cells #[] 3)) := by
        refine ⟨fx_step hfx (by intro u hu; simp [fxC] at hu), ?_, ?_⟩
        · simpa only [upd_other (show (3 : Nat) ≠ 0 by decide), upd_other (show (4 : Nat) ≠ 0 by decide), upd_other (show (7 : Nat) ≠ 0 by decide), upd_other (show (8 : Nat) ≠ 0 by decide), upd_other (show (9 : Nat) ≠ 0 by decide), upd_same, getD_set_other (show (0 : Nat) ≠ 3 by decide), getD_set_other (show (0 : Nat) ≠ 4 by decide), getD_set_other (show (0 : Nat) ≠ 7 by decide), getD_set_other (show (0 : Nat) ≠ 8 by decide), getD_set_other (show (0 : Nat) ≠ 9 by decide), getD_set_other (show (0 : Nat) ≠ 10 by decide), getD_set_eq hs] using h8
        · simp only [upd_other (show (3 : Nat) ≠ 0 by decide), upd_other (show (4 : Nat) ≠ 0 by decide), upd_other (show (7 : Nat) ≠ 0 by decide), upd_other (show (9 : Nat) ≠ 0 by decide), upd_same, getD_set_other (show (0 : Nat) ≠ 3 by decide), getD_set_other (show (0 : Nat) ≠ 4 by decide), getD_set_other (show (0 : Nat) ≠ 7 by decide), getD_set_other (show (0 : Nat) ≠ 9 by decide), getD_set_other (show (0 : Nat) ≠ 10 by decide), getD_set_eq hs]
          rw [lk, l3] at hC
          rw [l3]
          exact hC.op0
      clear hF hpre hl hfx h8 hC hs
      go_simp
      exact ⟨_, rfl, hgoal⟩
    | 1, ho =>
      simp at ho
      subst ho
      refine step_plain rfl ?_
      have e1 := hF.was 1 (by kernel_rfl) rfl
      have hs : 1 < L.size := by rw [hF.lsize]; decide
      obtain ⟨hfx, h8, hC⟩ := hR
      have hgoal : ∀ v, (∀ u, fxC w AX AY X Y cx cy 1 = some u → v = u) → RC w AX AY X Y cx cy W0 (upd val 1 v) (L.setIfInBounds 1 true) W := fun v hv => by
        refine ⟨fx_step hfx hv, ?_, ?_⟩
        · simpa only [upd_other (show (0 : Nat) ≠ 1 by decide), upd_other (show (3 : Nat) ≠ 1 by decide), upd_other (show (4 : Nat) ≠ 1 by decide), upd_other (show (7 : Nat) ≠ 1 by decide), upd_other (show (8 : Nat) ≠ 1 by decide), upd_other (show (9 : Nat) ≠ 1 by decide), upd_same, getD_set_other (show (1 : Nat) ≠ 0 by decide), getD_set_other (show (1 : Nat) ≠ 3 by decide), getD_set_other (show (1 : Nat) ≠ 4 by decide), getD_set_other (show (1 : Nat) ≠ 7 by decide), getD_set_other (show (1 : Nat) ≠ 8 by decide), getD_set_other (show (1 : Nat) ≠ 9 by decide), getD_set_other (show (1 : Nat) ≠ 10 by decide), getD_set_eq hs] using h8
        · simpa only [upd_other (show (0 : Nat) ≠ 1 by decide), upd_other (show (3 : Nat) ≠ 1 by decide), upd_other (show (4 : Nat) ≠ 1 by decide), upd_other (show (7 : Nat) ≠ 1 by decide), upd_other (show (8 : Nat) ≠ 1 by decide), upd_other (show (9 : Nat) ≠ 1 by decide), upd_same, getD_set_other (show (1 : Nat) ≠ 0 by decide), getD_set_other (show (1 : Nat) ≠ 3 by decide), getD_set_other (show (1 : Nat) ≠ 4 by decide), getD_set_other (show (1 : Nat) ≠ 7 by decide), getD_set_other (show (1 : Nat) ≠ 8 by decide), getD_set_other (show (1 : Nat) ≠ 9 by decide), getD_set_other (show (1 : Nat) ≠ 10 by decide), getD_set_eq hs] using hC
      clear hF hpre hl hfx h8 hC hs
      go_simp
      exact ⟨_, rfl, hgoal _ (by intro u hu; simpa [fxC] using hu)⟩
    | 2, ho =>
      simp at ho
      subst ho
      refine step_plain rfl ?_
      have e6 := hF.gave 1 rfl (hpre ⟨1, .data⟩ (by simp) rfl) rfl
      have hs : 2 < L.size := by rw [hF.lsize]; decide
      obtain ⟨hfx, h8, hC⟩ := hR
      have v1 := hfx 1 _ rfl (hpre ⟨1, .data⟩ (by simp) rfl)
      rw [v1] at e6
      have q0 := cell_keep hC.1 k0
      have hgoal : ∀ v, (∀ u, fxC w AX AY X Y cx cy 2 = some u → v = u) → RC w AX AY X Y cx cy W0 (upd val 2 v) (L.setIfInBounds 2 true) W := fun v hv => by
        refine ⟨fx_step hfx hv, ?_, ?_⟩
        · simpa only [upd_other (show (0 : Nat) ≠ 2 by decide), upd_other (show (3 : Nat) ≠ 2 by decide), upd_other (show (4 : Nat) ≠ 2 by decide), upd_other (show (7 : Nat) ≠ 2 by decide), upd_other (show (8 : Nat) ≠ 2 by decide), upd_other (show (9 : Nat) ≠ 2 by decide), upd_same, getD_set_other (show (2 : Nat) ≠ 0 by decide), getD_set_other (show (2 : Nat) ≠ 3 by decide), getD_set_other (show (2 : Nat) ≠ 4 by decide), getD_set_other (show (2 : Nat) ≠ 7 by decide), getD_set_other (show (2 : Nat) ≠ 8 by decide), getD_set_other (show (2 : Nat) ≠ 9 by decide), getD_set_other (show (2 : Nat) ≠ 10 by decide), getD_set_eq hs] using h8
        · simpa only [upd_other (show (0 : Nat) ≠ 2 by decide), upd_other (show (3 : Nat) ≠ 2 by decide), upd_other (show (4 : Nat) ≠ 2 by decide), upd_other (show (7 : Nat) ≠ 2 by decide), upd_other (show (8 : Nat) ≠ 2 by decide), upd_other (show (9 : Nat) ≠ 2 by decide), upd_same, getD_set_other (show (2 : Nat) ≠ 0 by decide), getD_set_other (show (2 : Nat) ≠ 3 by decide), getD_set_other (show (2 : Nat) ≠ 4 by decide), getD_set_other (show (2 : Nat) ≠ 7 by decide), getD_set_other (show (2 : Nat) ≠ 8 by decide), getD_set_other (show (2 : Nat) ≠ 9 by decide), getD_set_other (show (2 : Nat) ≠ 10 by decide), getD_set_eq hs] using hC
      clear hF hpre hl hfx h8 hC hs
      go_simp
      exact ⟨_, rfl, hgoal _ (by intro u hu; simpa [fxC] using hu)⟩
    | 3, ho =>
      simp at ho
      subst ho
      refine step_plain rfl ?_
      have e5 := hF.gave 0 rfl (hpre ⟨0, .data⟩ (by simp) rfl) rfl
      have e7 := hF.gave 2 rfl (hpre ⟨2, .data⟩ (by simp) rfl) rfl
      have hs : 3 < L.size := by rw [hF.lsize]; decide
      obtain ⟨hfx, h8, hC⟩ := hR
      have lk : L.getD 3 false = false := by rw [← getD_same hs]; exact hl
      have la := hpre ⟨0, .data⟩ (by simp) rfl
      have vl := hfx 2 _ rfl (hpre ⟨2, .data⟩ (by simp) rfl)
      have l8 := hF.later hl 8 rfl (e := ⟨3, .data⟩) (by simp) rfl rfl
      have l10 := hF.later hl 10 rfl (e := ⟨3, .phase⟩) (by simp) rfl rfl
      rw [vl] at e7
      rw [la, lk, l10] at hC
      have hC' := hC
      obtain ⟨hbel, bx, by_, bo, r1, r2, _⟩ := hC'
      have r := r1 rfl
      simp only [Bool.false_eq_true, if_false] at r
      refine wpIn_append_all _ _ _ 22 rfl W0.heap.size 3 i0 (.int .i64 0) 1 8 Try.underlying22 hi0 hz0 hz1 hz2 rfl (by decide) _ 0 [] (by rw [Act.eval, Array.getD_eq_getD_getElem?]; exact e5) r.2.2.2 AX X.length cx (X.map (Value.int .i64)) (by rw [Act.eval, Array.getD_eq_getD_getElem?]; exact e7) (by simp) (HX.out.below (hbel.mono (Nat.le_trans hB HB0.out.size))).cells (ints_one _) ?c1 ?c2 hbel.size _ rfl ?_
      case c1 => unfold maxLen; omega
      case c2 => omega
      intro v' w1 hown' hgrow hat hnn
      refine ⟨_, rfl, fx_step hfx (by intro u hu; simp [fxC] at hu), ?_, ?_⟩
      · simp only [upd_other (show (7 : Nat) ≠ 3 by decide), upd_other (show (8 : Nat) ≠ 3 by decide), upd_same, getD_set_other (show (3 : Nat) ≠ 8 by decide)]
        intro h; rw [l8] at h; cases h
      · simp only [upd_other (show (0 : Nat) ≠ 3 by decide), upd_other (show (4 : Nat) ≠ 3 by decide), upd_other (show (7 : Nat) ≠ 3 by decide), upd_other (show (9 : Nat) ≠ 3 by decide), upd_same, getD_set_other (show (3 : Nat) ≠ 0 by decide), getD_set_other (show (3 : Nat) ≠ 4 by decide), getD_set_other (show (3 : Nat) ≠ 7 by decide), getD_set_other (show (3 : Nat) ≠ 9 by decide), getD_set_other (show (3 : Nat) ≠ 10 by decide), getD_set_eq hs]
        rw [la, l10]
        exact hC.op3 hgrow (by simpa using hown') hat
    | 4, ho =>
      simp at ho
      subst ho
      refine step_plain rfl ?_
      have hs : 4 < L.size := by rw [hF.lsize]; decide
      obtain ⟨hfx, h8, hC⟩ := hR
      have l7 := hF.later hl 7 rfl (e := ⟨4, .data⟩) (by simp) rfl rfl
      have lk : L.getD 4 false = false := by rw [← getD_same hs]; exact hl
      have hgoal : RC w AX AY X Y cx cy W0 (upd val 4 (.slice (some ⟨W.heap.size, 0, none⟩) 0 0)) (L.setIfInBounds 4 true) (W.alloc (.cells #[] 3)) := by
        refine ⟨fx_step hfx (by intro u hu; simp [fxC] at hu), ?_, ?_⟩
        · simpa only [upd_other (show (0 : Nat) ≠ 4 by decide), upd_other (show (3 : Nat) ≠ 4 by decide), upd_other (show (7 : Nat) ≠ 4 by decide), upd_other (show (8 : Nat) ≠ 4 by decide), upd_other (show (9 : Nat) ≠ 4 by decide), upd_same, getD_set_other (show (4 : Nat) ≠ 0 by decide), getD_set_other (show (4 : Nat) ≠ 3 by decide), getD_set_other (show (4 : Nat) ≠ 7 by decide), getD_set_other (show (4 : Nat) ≠ 8 by decide), getD_set_other (show (4 : Nat) ≠ 9 by decide), getD_set_other (show (4 : Nat) ≠ 10 by decide), getD_set_eq hs] using h8
        · simp only [upd_other (show (0 : Nat) ≠ 4 by decide), upd_other (show (3 : Nat) ≠ 4 by decide), upd_other (show (7 : Nat) ≠ 4 by decide), upd_other (show (9 : Nat) ≠ 4 by decide), upd_same, getD_set_other (show (4 : Nat) ≠ 0 by decide), getD_set_other (show (4 : Nat) ≠ 3 by decide), getD_set_other (show (4 : Nat) ≠ 7 by decide), getD_set_other (show (4 : Nat) ≠ 9 by decide), getD_set_other (show (4 : Nat) ≠ 10 by decide), getD_set_eq hs]
          rw [lk, l7] at hC
          rw [l7]
          exact hC.op4
      clear hF hpre hl hfx h8 hC hs
      go_simp
      exact ⟨_, rfl, hgoal⟩
    | 5, ho =>
      simp at ho
      subst ho
      refine step_plain rfl ?_
      have e1 := hF.was 1 (by kernel_rfl) rfl
      have hs : 5 < L.size := by rw [hF.lsize]; decide
      obtain ⟨hfx, h8, hC⟩ := hR
      have hgoal : ∀ v, (∀ u, fxC w AX AY X Y cx cy 5 = some u → v = u) → RC w AX AY X Y cx cy W0 (upd val 5 v) (L.setIfInBounds 5 true) W := fun v hv => by
        refine ⟨fx_step hfx hv, ?_, ?_⟩
        · simpa only [upd_other (show (0 : Nat) ≠ 5 by decide), upd_other (show (3 : Nat) ≠ 5 by decide), upd_other (show (4 : Nat) ≠ 5 by decide), upd_other (show (7 : Nat) ≠ 5 by decide), upd_other (show (8 : Nat) ≠ 5 by decide), upd_other (show (9 : Nat) ≠ 5 by decide), upd_same, getD_set_other (show (5 : Nat) ≠ 0 by decide), getD_set_other (show (5 : Nat) ≠ 3 by decide), getD_set_other (show (5 : Nat) ≠ 4 by decide), getD_set_other (show (5 : Nat) ≠ 7 by decide), getD_set_other (show (5 : Nat) ≠ 8 by decide), getD_set_other (show (5 : Nat) ≠ 9 by decide), getD_set_other (show (5 : Nat) ≠ 10 by decide), getD_set_eq hs] using h8
        · simpa only [upd_other (show (0 : Nat) ≠ 5 by decide), upd_other (show (3 : Nat) ≠ 5 by decide), upd_other (show (4 : Nat) ≠ 5 by decide), upd_other (show (7 : Nat) ≠ 5 by decide), upd_other (show (8 : Nat) ≠ 5 by decide), upd_other (show (9 : Nat) ≠ 5 by decide), upd_same, getD_set_other (show (5 : Nat) ≠ 0 by decide), getD_set_other (show (5 : Nat) ≠ 3 by decide), getD_set_other (show (5 : Nat) ≠ 4 by decide), getD_set_other (show (5 : Nat) ≠ 7 by decide), getD_set_other (show (5 : Nat) ≠ 8 by decide), getD_set_other (show (5 : Nat) ≠ 9 by decide), getD_set_other (show (5 : Nat) ≠ 10 by decide), getD_set_eq hs] using hC
      clear hF hpre hl hfx h8 hC hs
      go_simp
      exact ⟨_, rfl, hgoal _ (by intro u hu; simpa [fxC] using hu)⟩
    | 6, ho =>
      simp at ho
      subst ho
      refine step_plain rfl ?_
      have e10 := hF.gave 5 rfl (hpre ⟨5, .data⟩ (by simp) rfl) rfl
      have hs : 6 < L.size := by rw [hF.lsize]; decide
      obtain ⟨hfx, h8, hC⟩ := hR
      have v5 := hfx 5 _ rfl (hpre ⟨5, .data⟩ (by simp) rfl)
      rw [v5] at e10
      have q0 := cell_keep hC.1 k1
      have hgoal : ∀ v, (∀ u, fxC w AX AY X Y cx cy 6 = some u → v = u) → RC w AX AY X Y cx cy W0 (upd val 6 v) (L.setIfInBounds 6 true) W := fun v hv => by
        refine ⟨fx_step hfx hv, ?_, ?_⟩
        · simpa only [upd_other (show (0 : Nat) ≠ 6 by decide), upd_other (show (3 : Nat) ≠ 6 by decide), upd_other (show (4 : Nat) ≠ 6 by decide), upd_other (show (7 : Nat) ≠ 6 by decide), upd_other (show (8 : Nat) ≠ 6 by decide), upd_other (show (9 : Nat) ≠ 6 by decide), upd_same, getD_set_other (show (6 : Nat) ≠ 0 by decide), getD_set_other (show (6 : Nat) ≠ 3 by decide), getD_set_other (show (6 : Nat) ≠ 4 by decide), getD_set_other (show (6 : Nat) ≠ 7 by decide), getD_set_other (show (6 : Nat) ≠ 8 by decide), getD_set_other (show (6 : Nat) ≠ 9 by decide), getD_set_other (show (6 : Nat) ≠ 10 by decide), getD_set_eq hs] using h8
        · simpa only [upd_other (show (0 : Nat) ≠ 6 by decide), upd_other (show (3 : Nat) ≠ 6 by decide), upd_other (show (4 : Nat) ≠ 6 by decide), upd_other (show (7 : Nat) ≠ 6 by decide), upd_other (show (8 : Nat) ≠ 6 by decide), upd_other (show (9 : Nat) ≠ 6 by decide), upd_same, getD_set_other (show (6 : Nat) ≠ 0 by decide), getD_set_other (show (6 : Nat) ≠ 3 by decide), getD_set_other (show (6 : Nat) ≠ 4 by decide), getD_set_other (show (6 : Nat) ≠ 7 by decide), getD_set_other (show (6 : Nat) ≠ 8 by decide), getD_set_other (show (6 : Nat) ≠ 9 by decide), getD_set_other (show (6 : Nat) ≠ 10 by decide), getD_set_eq hs] using hC
      clear hF hpre hl hfx h8 hC hs
      go_simp
      exact ⟨_, rfl, hgoal _ (by intro u hu; simpa [fxC] using hu)⟩
    | 7, ho =>
      simp at ho
      subst ho
      refine step_plain rfl ?_
      have e9 := hF.gave 4 rfl (hpre ⟨4, .data⟩ (by simp) rfl) rfl
      have e11 := hF.gave 6 rfl (hpre ⟨6, .data⟩ (by simp) rfl) rfl
      have hs : 7 < L.size := by rw [hF.lsize]; decide
      obtain ⟨hfx, h8, hC⟩ := hR
      have lk : L.getD 7 false = false := by rw [← getD_same hs]; exact hl
      have la := hpre ⟨4, .data⟩ (by simp) rfl
      have vl := hfx 6 _ rfl (hpre ⟨6, .data⟩ (by simp) rfl)
      have l8 := hF.later hl 8 rfl (e := ⟨7, .data⟩) (by simp) rfl rfl
      have l10 := hF.later hl 10 rfl (e := ⟨7, .chain⟩) (by simp) rfl rfl
      rw [vl] at e11
      rw [la, lk, l10] at hC
      have hC' := hC
      obtain ⟨hbel, bx, by_, bo, r1, r2, _⟩ := hC'
      have r := r2 rfl
      simp only [Bool.false_eq_true, if_false] at r
      refine wpIn_append_all _ _ _ 22 rfl W0.heap.size 3 i0 (.int .i64 0) 1 8 Try.underlying22 hi0 hz0 hz1 hz2 rfl (by decide) _ 0 [] (by rw [Act.eval, Array.getD_eq_getD_getElem?]; exact e9) r.2.2.2 AY Y.length cy (Y.map (Value.int .i64)) (by rw [Act.eval, Array.getD_eq_getD_getElem?]; exact e11) (by simp) (HY.out.below (hbel.mono (Nat.le_trans hB HB0.out.size))).cells (ints_one _) ?c1 ?c2 hbel.size _ rfl ?_
      case c1 => unfold maxLen; omega
      case c2 => omega
      intro v' w1 hown' hgrow hat hnn
      refine ⟨_, rfl, fx_step hfx (by intro u hu; simp [fxC] at hu), ?_, ?_⟩
      · simp only [upd_other (show (3 : Nat) ≠ 7 by decide), upd_other (show (8 : Nat) ≠ 7 by decide), upd_same, getD_set_other (show (7 : Nat) ≠ 8 by decide)]
        intro h; rw [l8] at h; cases h
      · simp only [upd_other (show (0 : Nat) ≠ 7 by decide), upd_other (show (3 : Nat) ≠ 7 by decide), upd_other (show (4 : Nat) ≠ 7 by decide), upd_other (show (9 : Nat) ≠ 7 by decide), upd_same, getD_set_other (show (7 : Nat) ≠ 0 by decide), getD_set_other (show (7 : Nat) ≠ 3 by decide), getD_set_other (show (7 : Nat) ≠ 4 by decide), getD_set_other (show (7 : Nat) ≠ 9 by decide), getD_set_other (show (7 : Nat) ≠ 10 by decide), getD_set_eq hs]
        rw [la, l10]
        exact hC.op7 hgrow (by simpa using hown') hat
    | 8, ho =>
      simp at ho
      subst ho
      refine step_plain rfl ?_
      have e8 := hF.gave 3 rfl (hpre ⟨3, .data⟩ (by simp) rfl) rfl
      have e12 := hF.gave 7 rfl (hpre ⟨7, .data⟩ (by simp) rfl) rfl
      have hs : 8 < L.size := by rw [hF.lsize]; decide
      obtain ⟨hfx, h8, hC⟩ := hR
      have l3 := hpre ⟨3, .data⟩ (by simp) rfl
      have l7 := hpre ⟨7, .data⟩ (by simp) rfl
      have l0 := hF.closed 3 _ rfl l3 ⟨0, .data⟩ (by simp) rfl
      have l4 := hF.closed 7 _ rfl l7 ⟨4, .data⟩ (by simp) rfl
      have hC' := hC
      obtain ⟨_, bx, by_, bo, r1, r2, _⟩ := hC'
      have r1' := r1 l0
      have r2' := r2 l4
      rw [if_pos l3, if_pos l3] at r1'
      rw [if_pos l7, if_pos l7] at r2'
      obtain ⟨c3, e3, _⟩ := r1'.slice
      obtain ⟨c7, e7, _⟩ := r2'.slice
      have hgoal : ∀ v, v = .agg #[val 3, val 7, .slice none 0 0] → RC w AX AY X Y cx cy W0 (upd val 8 v) (L.setIfInBounds 8 true) W := fun v hv => by
        refine ⟨fx_step hfx (by intro u hu; simp [fxC] at hu), ?_, ?_⟩
        · simpa only [upd_other (show (0 : Nat) ≠ 8 by decide), upd_other (show (3 : Nat) ≠ 8 by decide), upd_other (show (4 : Nat) ≠ 8 by decide), upd_other (show (7 : Nat) ≠ 8 by decide), upd_other (show (9 : Nat) ≠ 8 by decide), upd_same, getD_set_other (show (8 : Nat) ≠ 0 by decide), getD_set_other (show (8 : Nat) ≠ 3 by decide), getD_set_other (show (8 : Nat) ≠ 4 by decide), getD_set_other (show (8 : Nat) ≠ 7 by decide), getD_set_other (show (8 : Nat) ≠ 9 by decide), getD_set_other (show (8 : Nat) ≠ 10 by decide), getD_set_eq hs] using fun _ => hv
        · simpa only [upd_other (show (0 : Nat) ≠ 8 by decide), upd_other (show (3 : Nat) ≠ 8 by decide), upd_other (show (4 : Nat) ≠ 8 by decide), upd_other (show (7 : Nat) ≠ 8 by decide), upd_other (show (9 : Nat) ≠ 8 by decide), upd_same, getD_set_other (show (8 : Nat) ≠ 0 by decide), getD_set_other (show (8 : Nat) ≠ 3 by decide), getD_set_other (show (8 : Nat) ≠ 4 by decide), getD_set_other (show (8 : Nat) ≠ 7 by decide), getD_set_other (show (8 : Nat) ≠ 9 by decide), getD_set_other (show (8 : Nat) ≠ 10 by decide), getD_set_eq hs] using hC
      rw [e3, e7] at hgoal
      rw [e3] at e8
      rw [e7] at e12
      clear hF hpre hl hfx h8 hC hs r1 r2 r1' r2' e3 e7 l0 l3 l4 l7
      go_simp
      exact ⟨_, rfl, hgoal _ rfl⟩
    | 9, ho =>
      simp at ho
      subst ho
      refine step_plain rfl ?_
      have hs : 9 < L.size := by rw [hF.lsize]; decide
      obtain ⟨hfx, h8, hC⟩ := hR
      have lk : L.getD 9 false = false := by rw [← getD_same hs]; exact hl
      have l10 := hF.later hl 10 rfl (e := ⟨9, .data⟩) (by simp) rfl rfl
      have hgoal : RC w AX AY X Y cx cy W0 (upd val 9 (.pointer (some ⟨W.heap.size, 0, none⟩))) (L.setIfInBounds 9 true) (W.alloc (.cells #[.slice none 0 0, .slice none 0 0, .slice none 0 0] 25)) := by
        refine ⟨fx_step hfx (by intro u hu; simp [fxC] at hu), ?_, ?_⟩
        · simpa only [upd_other (show (0 : Nat) ≠ 9 by decide), upd_other (show (3 : Nat) ≠ 9 by decide), upd_other (show (4 : Nat) ≠ 9 by decide), upd_other (show (7 : Nat) ≠ 9 by decide), upd_other (show (8 : Nat) ≠ 9 by decide), upd_same, getD_set_other (show (9 : Nat) ≠ 0 by decide), getD_set_other (show (9 : Nat) ≠ 3 by decide), getD_set_other (show (9 : Nat) ≠ 4 by decide), getD_set_other (show (9 : Nat) ≠ 7 by decide), getD_set_other (show (9 : Nat) ≠ 8 by decide), getD_set_other (show (9 : Nat) ≠ 10 by decide), getD_set_eq hs] using h8
        · simp only [upd_other (show (0 : Nat) ≠ 9 by decide), upd_other (show (3 : Nat) ≠ 9 by decide), upd_other (show (4 : Nat) ≠ 9 by decide), upd_other (show (7 : Nat) ≠ 9 by decide), upd_same, getD_set_other (show (9 : Nat) ≠ 0 by decide), getD_set_other (show (9 : Nat) ≠ 3 by decide), getD_set_other (show (9 : Nat) ≠ 4 by decide), getD_set_other (show (9 : Nat) ≠ 7 by decide), getD_set_other (show (9 : Nat) ≠ 10 by decide), getD_set_eq hs]
          rw [lk, l10] at hC
          rw [l10]
          exact hC.op9
      clear hF hpre hl hfx h8 hC hs
      go_simp
      exact ⟨_, rfl, hgoal⟩
    | 10, ho =>
      simp at ho
      subst ho
      refine step_plain rfl ?_
      have e3 := hF.gave 9 rfl (hpre ⟨9, .data⟩ (by simp) rfl) rfl
      have e13 := hF.gave 8 rfl (hpre ⟨8, .data⟩ (by simp) rfl) rfl
      have hs : 10 < L.size := by rw [hF.lsize]; decide
      obtain ⟨hfx, h8, hC⟩ := hR
      have lk : L.getD 10 false = false := by rw [← getD_same hs]; exact hl
      have l9 := hpre ⟨9, .data⟩ (by simp) rfl
      have l8 := hpre ⟨8, .data⟩ (by simp) rfl
      have l7 := hpre ⟨7, .chain⟩ (by simp) rfl
      have l3 := hpre ⟨3, .phase⟩ (by simp) rfl
      have l0 := hpre ⟨0, .phase⟩ (by simp) rfl
      have l4 := hpre ⟨4, .phase⟩ (by simp) rfl
      rw [l0, l3, l4, l7, l9, lk] at hC
      have v8 := h8 l8
      rw [v8] at e13
      obtain ⟨bo, e9, hbl, hC1⟩ := hC.op10
      rw [e9] at e3
      have c0 : W.cell? ⟨bo, 0, none⟩ = some (.slice none 0 0) := block_cell hbl
      have c1 : W.cell? ⟨bo, 1, none⟩ = some (.slice none 0 0) := block_cell hbl
      have c2 : W.cell? ⟨bo, 2, none⟩ = some (.slice none 0 0) := block_cell hbl
      have z0 : W.frozen? ⟨bo, 0, none⟩ = false := block_frozen hbl
      have z1 : W.frozen? ⟨bo, 1, none⟩ = false := block_frozen hbl
      have z2 : W.frozen? ⟨bo, 2, none⟩ = false := block_frozen hbl
      have hgoal : RC w AX AY X Y cx cy W0 (upd val 10 undef) (L.setIfInBounds 10 true) (((W.setCell ⟨bo, 0, none⟩ (val 3)).setCell ⟨bo, 1, none⟩ (val 7)).setCell ⟨bo, 2, none⟩ (.slice none 0 0)) := by
        refine ⟨fx_step hfx (by intro u hu; simp [fxC] at hu), ?_, ?_⟩
        · simpa only [upd_other (show (0 : Nat) ≠ 10 by decide), upd_other (show (3 : Nat) ≠ 10 by decide), upd_other (show (4 : Nat) ≠ 10 by decide), upd_other (show (7 : Nat) ≠ 10 by decide), upd_other (show (8 : Nat) ≠ 10 by decide), upd_other (show (9 : Nat) ≠ 10 by decide), upd_same, getD_set_other (show (10 : Nat) ≠ 0 by decide), getD_set_other (show (10 : Nat) ≠ 3 by decide), getD_set_other (show (10 : Nat) ≠ 4 by decide), getD_set_other (show (10 : Nat) ≠ 7 by decide), getD_set_other (show (10 : Nat) ≠ 8 by decide), getD_set_other (show (10 : Nat) ≠ 9 by decide), getD_set_eq hs] using h8
        · simp only [upd_other (show (0 : Nat) ≠ 10 by decide), upd_other (show (3 : Nat) ≠ 10 by decide), upd_other (show (4 : Nat) ≠ 10 by decide), upd_other (show (7 : Nat) ≠ 10 by decide), upd_other (show (9 : Nat) ≠ 10 by decide), getD_set_other (show (10 : Nat) ≠ 0 by decide), getD_set_other (show (10 : Nat) ≠ 3 by decide), getD_set_other (show (10 : Nat) ≠ 4 by decide), getD_set_other (show (10 : Nat) ≠ 7 by decide), getD_set_other (show (10 : Nat) ≠ 9 by decide), getD_set_eq hs]
          rw [l0, l3, l4, l7, l9]
          exact hC1
      have hC' := hC1
      obtain ⟨_, bx, by_, _, r1, r2, _⟩ := hC'
      have r1' := r1 rfl
      have r2' := r2 rfl
      rw [if_pos rfl, if_pos rfl] at r1' r2'
      obtain ⟨c3, e3', _⟩ := r1'.slice
      obtain ⟨c7, e7', _⟩ := r2'.slice
      rw [e3', e7'] at hgoal e13
      clear hF hpre hl hfx h8 hC hs hC1 hbl e9 v8 r1 r2 r1' r2' e3' e7' l0 l3 l4 l7 l8 l9 lk
      go_simp
      exact ⟨undef, hgoal⟩
    | i + 11, ho => simp at ho
  case hend =>
    intro val L b W hF hall hR
    obtain ⟨hfx, h8, hC⟩ := hR
    have e := hF.all (by kernel_rfl) hall
    have l0 := hall 0 (by decide)
    have l3 := hall 3 (by decide)
    have l4 := hall 4 (by decide)
    have l7 := hall 7 (by decide)
    have l9 := hall 9 (by decide)
    have l10 := hall 10 (by decide)
    rw [l0, l3, l4, l7, l9, l10] at hC
    obtain ⟨hbel, bx, by_, bo, r1, r2, r3, r4, r5, r6⟩ := hC
    have r1' := r1 rfl
    have r2' := r2 rfl
    obtain ⟨e9, o1, o2⟩ := r3 rfl
    rw [if_pos rfl, if_pos rfl] at r1' r2'
    rw [if_pos rfl, if_pos rfl] at o2
    have nxo := r5 rfl rfl
    have nyo := r6 rfl rfl
    obtain ⟨c3, e3, rx⟩ := r1'.slice
    obtain ⟨c7, e7, ry⟩ := r2'.slice
    rw [e3, e7] at o2
    have hbW : Below w.heap.size w W := HB0.out.trans (hbel.mono HB0.out.size)
    have t0 : W.cell? ⟨w.heap.size, 2, none⟩ = some (.slice AV V.length cv) := cell_keep hbel k2
    have hRR : RR W B AV V := HV.out.below (hbel.mono (Nat.le_trans hB HB0.out.size))
    have hxl : bx < W.heap.size := r1'.2.1
    have hxb : w.heap.size + 2 ≤ bx := by have := HZ.out; have := r1'.1; omega
    have hyb : w.heap.size + 2 ≤ by_ := by have := HZ.out; have := r2'.1; omega
    have hyl : by_ < W.heap.size := r2'.2.1
    have hol : bo < W.heap.size := (Array.getElem?_eq_some_iff.1 o2).1
    have hbo : w.heap.size + 2 ≤ bo := by have := HZ.out; omega
    have tz : ∀ k, k < 3 → W.cell? ⟨w.heap.size + 1, k, none⟩ = some (.slice none 0 0) := fun k hk => cell_keep hbel (k3 k hk)
    have tf : ∀ k, k < 3 → W.frozen? ⟨w.heap.size + 1, k, none⟩ = false := fun k hk => (hbel.frozen (p := ⟨w.heap.size + 1, k, none⟩) (by have := HZ.out; simp; omega)).trans (k4 k hk)
    have HRX := Lib.hid rx
    have HRY := Lib.hid ry
    have HRR := Lib.hid hRR
    have HBW := Lib.hid hbW
    have HO := Lib.hid o2
    have hle : w.heap.size + 2 ≤ W.heap.size := by have := HZ.out; have := hbel.size; omega
    have HLE := Lib.hid hle
    clear hF hall hfx h8 hbel r1 r2 r3 r4 r5 r6 r1' r2' o1 o2 rx ry hRR hbW l0 l3 l4 l7 l9 l10 k0 k1 k2 k3 k4 HX HY HV HZ HB0 hle
    subst e
    simp [final, dstOf, List.range, List.range.loop]
    rw [e9, e3, e7]
    clear e9 e3 e7
    generalize val 0 = v0, val 1 = v1, val 2 = v2, val 4 = v4, val 5 = v5, val 6 = v6, val 8 = v8
    go_wp2_with fail
    go_loopw [4] (fun i wr => ∃ k : Nat, k ≤ V.length ∧ i = .int .i64 k ∧ ∃ rv vs, wr.ownsRow W.heap.size 22 1 rv k vs ∧ Rows_ W.heap.size wr (V.take k) rv vs ∧
      wr.heap[bo]? = some (.cells #[.slice (some ⟨bx, 0, none⟩) X.length c3, .slice (some ⟨by_, 0, none⟩) Y.length c7, rv] 25 (0, 0)) ∧ (∀ b, b < W.heap.size → b ≠ bo → wr.heap[b]? = W.heap[b]?) ∧ W.heap.size ≤ wr.heap.size ∧ Below w.heap.size w wr) (fun i _ => V.length - (intOf i).toNat)
    case atStart => exact ⟨0, by omega, rfl, .slice none 0 0, [], ⟨by simp, .inl ⟨rfl, rfl⟩⟩, ⟨by simp, by simp⟩, HO.out, fun _ _ _ => rfl, Nat.le_refl _, HBW.out⟩
    case round =>
      obtain ⟨k, hk, rfl, rv, vs, hown, hrows, hbox, hkeep, hsz, hbw⟩ := hrel
      have hle := HLE.out
      have hwl : w.heap.size < W.heap.size := by omega
      have q2 : wr.cell? ⟨w.heap.size, 2, none⟩ = some (.slice AV V.length cv) := (cell_same (hkeep _ hwl (by omega))).trans t0
      have hrvM : ∀ q, rv.ownBlock = some q → W.heap.size ≤ q := fun q hq => own_base hown hq
      have hrvlt : ∀ q, rv.ownBlock = some q → q < wr.heap.size := fun q hq => own_lt hown hq
      have hcell : ∀ {x' : World} {g o : Nat} {v : Value}, wr.grownBy x' rv.ownBlock → g < W.heap.size → wr.cell? ⟨g, o, none⟩ = some v → x'.cell? ⟨g, o, none⟩ = some v := fun {x' g o v} hg hlt hc =>
        (cell_same (hg.block g (by omega) (fun h => by have := hrvM g h.symm; omega))).trans hc
      by_cases hlt : k < V.length
      · obtain ⟨b, off, r, A', c', rfl, hb, hr, hc, hri⟩ := HRR.out.at_ hlt
        have hbl : b < W.heap.size := by omega
        have hc' : wr.cell? ⟨b, off + k, none⟩ = some (.slice A' r.length c') := (cell_same (hkeep b hbl (by omega))).trans hc
        have hri' : RI wr B A' r := RV.keep hri (fun p hp => World.cell?_of_block (hkeep p.block (by omega) (by omega)))
        have hrl : r.length ≤ 1000000 := hnr r (List.mem_of_getElem? hr)
        have HR := Lib.hid hr
        have HKP := Lib.hid hkeep
        have HOW := Lib.hid hown
        have HRO := Lib.hid hrows
        have HBR := Lib.hid hbw
        clear hr hc hri hkeep hown hrows hbw
        go_upto_region 5 with fail
        refine wpIn_wide.1 (region_inv2 (n := 9) (by kernel_rfl) (R5 (fx5 w.heap.size b off V.length cv k A' r.length c' bo rv) wr W.heap.size k rv vs r bo) (by kernel_rfl) rfl ⟨(by intro j u _ hl; rw [getD_replicate_no] at hl; cases hl), (fun _ => by simp only [getD_replicate_no]; exact S5.start HOW.out), (by intro hl; rw [getD_replicate_no] at hl; cases hl)⟩ ?hstep ?hend)
        case hstep =>
          intro i' o ho val L b' x' hF hR hpre hl
          match i', ho with
          | 0, ho =>
            simp at ho
            subst ho
            refine step_plain rfl ?_
            have e3 := hF.was 3 (by kernel_rfl) rfl
            have hs : 0 < L.size := by rw [hF.lsize]; decide
            obtain ⟨hfx, hA, hZ⟩ := hR
            have l12 := hF.later hl 12 rfl (e := ⟨0, .phase⟩) (by simp) rfl rfl
            have hS := hA l12
            have hgoal : ∀ v, (∀ u, fx5 w.heap.size b off V.length cv k A' r.length c' bo rv 0 = some u → v = u) → R5 (fx5 w.heap.size b off V.length cv k A' r.length c' bo rv) wr W.heap.size k rv vs r bo (upd val 0 v) (L.setIfInBounds 0 true) x' := fun v hv => by
              refine ⟨fx_step hfx hv, ?_, ?_⟩
              · simpa only [upd_other (show (2 : Nat) ≠ 0 by decide), upd_other (show (8 : Nat) ≠ 0 by decide), upd_other (show (9 : Nat) ≠ 0 by decide), upd_other (show (10 : Nat) ≠ 0 by decide), upd_same, getD_set_other (show (0 : Nat) ≠ 2 by decide), getD_set_other (show (0 : Nat) ≠ 8 by decide), getD_set_other (show (0 : Nat) ≠ 9 by decide), getD_set_other (show (0 : Nat) ≠ 10 by decide), getD_set_other (show (0 : Nat) ≠ 12 by decide), getD_set_eq hs] using hA
              · simpa only [upd_other (show (2 : Nat) ≠ 0 by decide), upd_other (show (8 : Nat) ≠ 0 by decide), upd_other (show (9 : Nat) ≠ 0 by decide), upd_other (show (10 : Nat) ≠ 0 by decide), upd_same, getD_set_other (show (0 : Nat) ≠ 2 by decide), getD_set_other (show (0 : Nat) ≠ 8 by decide), getD_set_other (show (0 : Nat) ≠ 9 by decide), getD_set_other (show (0 : Nat) ≠ 10 by decide), getD_set_other (show (0 : Nat) ≠ 12 by decide), getD_set_eq hs] using hZ
            clear hF hpre hl hfx hA hZ hS hs l12
            go_simp
            exact ⟨_, rfl, hgoal _ (by intro u hu; simpa [fx5] using hu)⟩
          | 1, ho =>
            simp at ho
            subst ho
            refine step_plain rfl ?_
            have e21 := hF.gave 0 rfl (hpre ⟨0, .data⟩ (by simp) rfl) rfl
            have hs : 1 < L.size := by rw [hF.lsize]; decide
            obtain ⟨hfx, hA, hZ⟩ := hR
            have l12 := hF.later hl 12 rfl (e := ⟨1, .phase⟩) (by simp) rfl rfl
            have hS := hA l12
            have v0 := hfx 0 _ rfl (hpre ⟨0, .data⟩ (by simp) rfl)
            rw [v0] at e21
            have q0 := hcell hS.1 hol (block_cell (o := 2) hbox)
            have hgoal : ∀ v, (∀ u, fx5 w.heap.size b off V.length cv k A' r.length c' bo rv 1 = some u → v = u) → R5 (fx5 w.heap.size b off V.length cv k A' r.length c' bo rv) wr W.heap.size k rv vs r bo (upd val 1 v) (L.setIfInBounds 1 true) x' := fun v hv => by
              refine ⟨fx_step hfx hv, ?_, ?_⟩
              · simpa only [upd_other (show (2 : Nat) ≠ 1 by decide), upd_other (show (8 : Nat) ≠ 1 by decide), upd_other (show (9 : Nat) ≠ 1 by decide), upd_other (show (10 : Nat) ≠ 1 by decide), upd_same, getD_set_other (show (1 : Nat) ≠ 2 by decide), getD_set_other (show (1 : Nat) ≠ 8 by decide), getD_set_other (show (1 : Nat) ≠ 9 by decide), getD_set_other (show (1 : Nat) ≠ 10 by decide), getD_set_other (show (1 : Nat) ≠ 12 by decide), getD_set_eq hs] using hA
              · simpa only [upd_other (show (2 : Nat) ≠ 1 by decide), upd_other (show (8 : Nat) ≠ 1 by decide), upd_other (show (9 : Nat) ≠ 1 by decide), upd_other (show (10 : Nat) ≠ 1 by decide), upd_same, getD_set_other (show (1 : Nat) ≠ 2 by decide), getD_set_other (show (1 : Nat) ≠ 8 by decide), getD_set_other (show (1 : Nat) ≠ 9 by decide), getD_set_other (show (1 : Nat) ≠ 10 by decide), getD_set_other (show (1 : Nat) ≠ 12 by decide), getD_set_eq hs] using hZ
            clear hF hpre hl hfx hA hZ hS hs l12
            go_simp
            exact ⟨_, rfl, hgoal _ (by intro u hu; simpa [fx5] using hu)⟩
          | 2, ho =>
            simp at ho
            subst ho
            refine step_plain rfl ?_
            have hs : 2 < L.size := by rw [hF.lsize]; decide
            obtain ⟨hfx, hA, hZ⟩ := hR
            have l12 := hF.later hl 12 rfl (e := ⟨2, .phase⟩) (by simp) rfl rfl
            have hS := hA l12
            have lk : L.getD 2 false = false := by rw [← getD_same hs]; exact hl
            have l8 := hF.later hl 8 rfl (e := ⟨2, .data⟩) (by simp) rfl rfl
            have l9 : L.getD 9 false = false := getD_no_of hF 9 8 rfl (e := ⟨8, .data⟩) (by simp) rfl rfl l8
            have l10 : L.getD 10 false = false := getD_no_of hF 10 9 rfl (e := ⟨9, .data⟩) (by simp) rfl rfl l9
            rw [lk, l8, l9, l10] at hS
            have hgoal : R5 (fx5 w.heap.size b off V.length cv k A' r.length c' bo rv) wr W.heap.size k rv vs r bo (upd val 2 (.slice (some ⟨x'.heap.size, 0, none⟩) 0 0)) (L.setIfInBounds 2 true) (x'.alloc (.cells #[] 3)) := by
              refine ⟨fx_step hfx (by intro u hu; simp [fx5] at hu), ?_, ?_⟩
              · simp only [upd_other (show (8 : Nat) ≠ 2 by decide), upd_other (show (9 : Nat) ≠ 2 by decide), upd_other (show (10 : Nat) ≠ 2 by decide), upd_same, getD_set_other (show (2 : Nat) ≠ 8 by decide), getD_set_other (show (2 : Nat) ≠ 9 by decide), getD_set_other (show (2 : Nat) ≠ 10 by decide), getD_set_other (show (2 : Nat) ≠ 12 by decide), getD_set_eq hs]
                intro _
                rw [l8, l9, l10]
                exact hS.op2 hsz
              · simp only [upd_other (show (8 : Nat) ≠ 2 by decide), upd_other (show (9 : Nat) ≠ 2 by decide), upd_other (show (10 : Nat) ≠ 2 by decide), upd_same, getD_set_other (show (2 : Nat) ≠ 12 by decide)]
                intro h; rw [l12] at h; cases h
            clear hF hpre hl hfx hA hZ hS hs l12 lk l8 l9 l10
            go_simp
            exact ⟨_, rfl, hgoal⟩
          | 3, ho =>
            simp at ho
            subst ho
            refine step_plain rfl ?_
            have e1 := hF.was 1 (by kernel_rfl) rfl
            have hs : 3 < L.size := by rw [hF.lsize]; decide
            obtain ⟨hfx, hA, hZ⟩ := hR
            have l12 := hF.later hl 12 rfl (e := ⟨3, .phase⟩) (by simp) rfl rfl
            have hS := hA l12
            have hgoal : ∀ v, (∀ u, fx5 w.heap.size b off V.length cv k A' r.length c' bo rv 3 = some u → v = u) → R5 (fx5 w.heap.size b off V.length cv k A' r.length c' bo rv) wr W.heap.size k rv vs r bo (upd val 3 v) (L.setIfInBounds 3 true) x' := fun v hv => by
              refine ⟨fx_step hfx hv, ?_, ?_⟩
              · simpa only [upd_other (show (2 : Nat) ≠ 3 by decide), upd_other (show (8 : Nat) ≠ 3 by decide), upd_other (show (9 : Nat) ≠ 3 by decide), upd_other (show (10 : Nat) ≠ 3 by decide), upd_same, getD_set_other (show (3 : Nat) ≠ 2 by decide), getD_set_other (show (3 : Nat) ≠ 8 by decide), getD_set_other (show (3 : Nat) ≠ 9 by decide), getD_set_other (show (3 : Nat) ≠ 10 by decide), getD_set_other (show (3 : Nat) ≠ 12 by decide), getD_set_eq hs] using hA
              · simpa only [upd_other (show (2 : Nat) ≠ 3 by decide), upd_other (show (8 : Nat) ≠ 3 by decide), upd_other (show (9 : Nat) ≠ 3 by decide), upd_other (show (10 : Nat) ≠ 3 by decide), upd_same, getD_set_other (show (3 : Nat) ≠ 2 by decide), getD_set_other (show (3 : Nat) ≠ 8 by decide), getD_set_other (show (3 : Nat) ≠ 9 by decide), getD_set_other (show (3 : Nat) ≠ 10 by decide), getD_set_other (show (3 : Nat) ≠ 12 by decide), getD_set_eq hs] using hZ
            clear hF hpre hl hfx hA hZ hS hs l12
            go_simp
            exact ⟨_, rfl, hgoal _ (by intro u hu; simpa [fx5] using hu)⟩
          | 4, ho =>
            simp at ho
            subst ho
            refine step_plain rfl ?_
            have e24 := hF.gave 3 rfl (hpre ⟨3, .data⟩ (by simp) rfl) rfl
            have hs : 4 < L.size := by rw [hF.lsize]; decide
            obtain ⟨hfx, hA, hZ⟩ := hR
            have l12 := hF.later hl 12 rfl (e := ⟨4, .phase⟩) (by simp) rfl rfl
            have hS := hA l12
            have v3 := hfx 3 _ rfl (hpre ⟨3, .data⟩ (by simp) rfl)
            rw [v3] at e24
            have q0 := hcell hS.1 hwl q2
            have hgoal : ∀ v, (∀ u, fx5 w.heap.size b off V.length cv k A' r.length c' bo rv 4 = some u → v = u) → R5 (fx5 w.heap.size b off V.length cv k A' r.length c' bo rv) wr W.heap.size k rv vs r bo (upd val 4 v) (L.setIfInBounds 4 true) x' := fun v hv => by
              refine ⟨fx_step hfx hv, ?_, ?_⟩
              · simpa only [upd_other (show (2 : Nat) ≠ 4 by decide), upd_other (show (8 : Nat) ≠ 4 by decide), upd_other (show (9 : Nat) ≠ 4 by decide), upd_other (show (10 : Nat) ≠ 4 by decide), upd_same, getD_set_other (show (4 : Nat) ≠ 2 by decide), getD_set_other (show (4 : Nat) ≠ 8 by decide), getD_set_other (show (4 : Nat) ≠ 9 by decide), getD_set_other (show (4 : Nat) ≠ 10 by decide), getD_set_other (show (4 : Nat) ≠ 12 by decide), getD_set_eq hs] using hA
              · simpa only [upd_other (show (2 : Nat) ≠ 4 by decide), upd_other (show (8 : Nat) ≠ 4 by decide), upd_other (show (9 : Nat) ≠ 4 by decide), upd_other (show (10 : Nat) ≠ 4 by decide), upd_same, getD_set_other (show (4 : Nat) ≠ 2 by decide), getD_set_other (show (4 : Nat) ≠ 8 by decide), getD_set_other (show (4 : Nat) ≠ 9 by decide), getD_set_other (show (4 : Nat) ≠ 10 by decide), getD_set_other (show (4 : Nat) ≠ 12 by decide), getD_set_eq hs] using hZ
            clear hF hpre hl hfx hA hZ hS hs l12
            go_simp
            exact ⟨_, rfl, hgoal _ (by intro u hu; simpa [fx5] using hu)⟩
          | 5, ho =>
            simp at ho
            subst ho
            refine step_plain rfl ?_
            have e4 := hF.was 4 (by kernel_rfl) rfl
            have hs : 5 < L.size := by rw [hF.lsize]; decide
            obtain ⟨hfx, hA, hZ⟩ := hR
            have l12 := hF.later hl 12 rfl (e := ⟨5, .phase⟩) (by simp) rfl rfl
            have hS := hA l12
            have hgoal : ∀ v, (∀ u, fx5 w.heap.size b off V.length cv k A' r.length c' bo rv 5 = some u → v = u) → R5 (fx5 w.heap.size b off V.length cv k A' r.length c' bo rv) wr W.heap.size k rv vs r bo (upd val 5 v) (L.setIfInBounds 5 true) x' := fun v hv => by
              refine ⟨fx_step hfx hv, ?_, ?_⟩
              · simpa only [upd_other (show (2 : Nat) ≠ 5 by decide), upd_other (show (8 : Nat) ≠ 5 by decide), upd_other (show (9 : Nat) ≠ 5 by decide), upd_other (show (10 : Nat) ≠ 5 by decide), upd_same, getD_set_other (show (5 : Nat) ≠ 2 by decide), getD_set_other (show (5 : Nat) ≠ 8 by decide), getD_set_other (show (5 : Nat) ≠ 9 by decide), getD_set_other (show (5 : Nat) ≠ 10 by decide), getD_set_other (show (5 : Nat) ≠ 12 by decide), getD_set_eq hs] using hA
              · simpa only [upd_other (show (2 : Nat) ≠ 5 by decide), upd_other (show (8 : Nat) ≠ 5 by decide), upd_other (show (9 : Nat) ≠ 5 by decide), upd_other (show (10 : Nat) ≠ 5 by decide), upd_same, getD_set_other (show (5 : Nat) ≠ 2 by decide), getD_set_other (show (5 : Nat) ≠ 8 by decide), getD_set_other (show (5 : Nat) ≠ 9 by decide), getD_set_other (show (5 : Nat) ≠ 10 by decide), getD_set_other (show (5 : Nat) ≠ 12 by decide), getD_set_eq hs] using hZ
            clear hF hpre hl hfx hA hZ hS hs l12
            go_simp
            exact ⟨_, rfl, hgoal _ (by intro u hu; simpa [fx5] using hu)⟩
          | 6, ho =>
            simp at ho
            subst ho
            refine step_plain rfl ?_
            have e25 := hF.gave 4 rfl (hpre ⟨4, .data⟩ (by simp) rfl) rfl
            have e26 := hF.gave 5 rfl (hpre ⟨5, .data⟩ (by simp) rfl) rfl
            have hs : 6 < L.size := by rw [hF.lsize]; decide
            obtain ⟨hfx, hA, hZ⟩ := hR
            have l12 := hF.later hl 12 rfl (e := ⟨6, .phase⟩) (by simp) rfl rfl
            have hS := hA l12
            have v4 := hfx 4 _ rfl (hpre ⟨4, .data⟩ (by simp) rfl)
            rw [v4] at e25
            have v5 := hfx 5 _ rfl (hpre ⟨5, .data⟩ (by simp) rfl)
            rw [v5] at e26
            have hgoal : ∀ v, (∀ u, fx5 w.heap.size b off V.length cv k A' r.length c' bo rv 6 = some u → v = u) → R5 (fx5 w.heap.size b off V.length cv k A' r.length c' bo rv) wr W.heap.size k rv vs r bo (upd val 6 v) (L.setIfInBounds 6 true) x' := fun v hv => by
              refine ⟨fx_step hfx hv, ?_, ?_⟩
              · simpa only [upd_other (show (2 : Nat) ≠ 6 by decide), upd_other (show (8 : Nat) ≠ 6 by decide), upd_other (show (9 : Nat) ≠ 6 by decide), upd_other (show (10 : Nat) ≠ 6 by decide), upd_same, getD_set_other (show (6 : Nat) ≠ 2 by decide), getD_set_other (show (6 : Nat) ≠ 8 by decide), getD_set_other (show (6 : Nat) ≠ 9 by decide), getD_set_other (show (6 : Nat) ≠ 10 by decide), getD_set_other (show (6 : Nat) ≠ 12 by decide), getD_set_eq hs] using hA
              · simpa only [upd_other (show (2 : Nat) ≠ 6 by decide), upd_other (show (8 : Nat) ≠ 6 by decide), upd_other (show (9 : Nat) ≠ 6 by decide), upd_other (show (10 : Nat) ≠ 6 by decide), upd_same, getD_set_other (show (6 : Nat) ≠ 2 by decide), getD_set_other (show (6 : Nat) ≠ 8 by decide), getD_set_other (show (6 : Nat) ≠ 9 by decide), getD_set_other (show (6 : Nat) ≠ 10 by decide), getD_set_other (show (6 : Nat) ≠ 12 by decide), getD_set_eq hs] using hZ
            clear hF hpre hl hfx hA hZ hS hs l12
            go_simp
            exact ⟨_, rfl, hgoal _ (by intro u hu; simpa [fx5] using hu)⟩
          | 7, ho =>
            simp at ho
            subst ho
            refine step_plain rfl ?_
            have e27 := hF.gave 6 rfl (hpre ⟨6, .data⟩ (by simp) rfl) rfl
            have hs : 7 < L.size := by rw [hF.lsize]; decide
            obtain ⟨hfx, hA, hZ⟩ := hR
            have l12 := hF.later hl 12 rfl (e := ⟨7, .phase⟩) (by simp) rfl rfl
            have hS := hA l12
            have v6 := hfx 6 _ rfl (hpre ⟨6, .data⟩ (by simp) rfl)
            rw [v6] at e27
            have q0 := hcell hS.1 hbl hc'
            have hgoal : ∀ v, (∀ u, fx5 w.heap.size b off V.length cv k A' r.length c' bo rv 7 = some u → v = u) → R5 (fx5 w.heap.size b off V.length cv k A' r.length c' bo rv) wr W.heap.size k rv vs r bo (upd val 7 v) (L.setIfInBounds 7 true) x' := fun v hv => by
              refine ⟨fx_step hfx hv, ?_, ?_⟩
              · simpa only [upd_other (show (2 : Nat) ≠ 7 by decide), upd_other (show (8 : Nat) ≠ 7 by decide), upd_other (show (9 : Nat) ≠ 7 by decide), upd_other (show (10 : Nat) ≠ 7 by decide), upd_same, getD_set_other (show (7 : Nat) ≠ 2 by decide), getD_set_other (show (7 : Nat) ≠ 8 by decide), getD_set_other (show (7 : Nat) ≠ 9 by decide), getD_set_other (show (7 : Nat) ≠ 10 by decide), getD_set_other (show (7 : Nat) ≠ 12 by decide), getD_set_eq hs] using hA
              · simpa only [upd_other (show (2 : Nat) ≠ 7 by decide), upd_other (show (8 : Nat) ≠ 7 by decide), upd_other (show (9 : Nat) ≠ 7 by decide), upd_other (show (10 : Nat) ≠ 7 by decide), upd_same, getD_set_other (show (7 : Nat) ≠ 2 by decide), getD_set_other (show (7 : Nat) ≠ 8 by decide), getD_set_other (show (7 : Nat) ≠ 9 by decide), getD_set_other (show (7 : Nat) ≠ 10 by decide), getD_set_other (show (7 : Nat) ≠ 12 by decide), getD_set_eq hs] using hZ
            clear hF hpre hl hfx hA hZ hS hs l12
            go_simp
            exact ⟨_, rfl, hgoal _ (by intro u hu; simpa [fx5] using hu)⟩
          | 8, ho =>
            simp at ho
            subst ho
            refine step_plain rfl ?_
            have e23 := hF.gave 2 rfl (hpre ⟨2, .data⟩ (by simp) rfl) rfl
            have e28 := hF.gave 7 rfl (hpre ⟨7, .data⟩ (by simp) rfl) rfl
            have hs : 8 < L.size := by rw [hF.lsize]; decide
            obtain ⟨hfx, hA, hZ⟩ := hR
            have l12 := hF.later hl 12 rfl (e := ⟨8, .phase⟩) (by simp) rfl rfl
            have hS := hA l12
            have v7 := hfx 7 _ rfl (hpre ⟨7, .data⟩ (by simp) rfl)
            rw [v7] at e28
            have lk : L.getD 8 false = false := by rw [← getD_same hs]; exact hl
            have l2 := hpre ⟨2, .data⟩ (by simp) rfl
            have l9 := hF.later hl 9 rfl (e := ⟨8, .data⟩) (by simp) rfl rfl
            have l10 := hF.later hl 10 rfl (e := ⟨8, .chain⟩) (by simp) rfl rfl
            rw [lk, l2, l9, l10] at hS
            have hS' := hS
            obtain ⟨hgr, _, g, hg3, hg4, _⟩ := hS'
            have hx := hg4 rfl
            rw [if_neg (by decide), if_neg (by decide)] at hx
            have hle := hgr.size
            refine wpIn_append_all _ _ _ 22 rfl W.heap.size 3 i0 (.int .i64 0) 1 8 Try.underlying22 hi0 hz0 hz1 hz2 rfl (by decide) _ 0 [] (by rw [Act.eval, Array.getD_eq_getD_getElem?]; exact e23) hx.2.2.2 A' r.length c' (r.map (Value.int .i64)) (by rw [Act.eval, Array.getD_eq_getD_getElem?]; exact e28) (by simp) (hri'.cells_grown hgr (by omega) (fun q hq => by have := hrvM q hq; omega)) (ints_one _) ?c1 ?c2 (by omega) _ rfl ?_
            case c1 => unfold maxLen; omega
            case c2 => omega
            intro v' w1 hown' hgrow hat hnn
            refine ⟨_, rfl, fx_step hfx (by intro u hu; simp [fx5] at hu), ?_, ?_⟩
            · simp only [upd_other (show (2 : Nat) ≠ 8 by decide), upd_other (show (9 : Nat) ≠ 8 by decide), upd_other (show (10 : Nat) ≠ 8 by decide), upd_same, getD_set_other (show (8 : Nat) ≠ 2 by decide), getD_set_other (show (8 : Nat) ≠ 9 by decide), getD_set_other (show (8 : Nat) ≠ 10 by decide), getD_set_other (show (8 : Nat) ≠ 12 by decide), getD_set_eq hs]
              intro _
              rw [l2, l9, l10]
              exact hS.op8 hrvlt hgrow (by simpa using hown') hat
            · simp only [upd_other (show (2 : Nat) ≠ 8 by decide), upd_other (show (9 : Nat) ≠ 8 by decide), upd_other (show (10 : Nat) ≠ 8 by decide), upd_same, getD_set_other (show (8 : Nat) ≠ 12 by decide)]
              intro h; rw [l12] at h; cases h
          | 9, ho =>
            simp at ho
            subst ho
            refine step_plain rfl ?_
            have e29 := hF.gave 8 rfl (hpre ⟨8, .data⟩ (by simp) rfl) rfl
            have hs : 9 < L.size := by rw [hF.lsize]; decide
            obtain ⟨hfx, hA, hZ⟩ := hR
            have l12 := hF.later hl 12 rfl (e := ⟨9, .phase⟩) (by simp) rfl rfl
            have hS := hA l12
            have lk : L.getD 9 false = false := by rw [← getD_same hs]; exact hl
            have l8 := hpre ⟨8, .data⟩ (by simp) rfl
            have l2 := hF.closed 8 _ rfl l8 ⟨2, .data⟩ (by simp) rfl
            have l10 := hF.later hl 10 rfl (e := ⟨9, .data⟩) (by simp) rfl rfl
            rw [lk, l8, l2, l10] at hS
            have hx8 := hS.2.2
            obtain ⟨g8, _, hx8, _⟩ := hx8
            have hx8' := hx8 rfl
            rw [if_pos rfl, if_pos rfl] at hx8'
            obtain ⟨c8, e8, _⟩ := hx8'.slice
            have hgoal : R5 (fx5 w.heap.size b off V.length cv k A' r.length c' bo rv) wr W.heap.size k rv vs r bo (upd val 9 (.slice (some ⟨x'.heap.size, 0, none⟩) 1 1)) (L.setIfInBounds 9 true) (x'.alloc (.cells #[val 8] 22)) := by
              refine ⟨fx_step hfx (by intro u hu; simp [fx5] at hu), ?_, ?_⟩
              · simp only [upd_other (show (2 : Nat) ≠ 9 by decide), upd_other (show (8 : Nat) ≠ 9 by decide), upd_other (show (10 : Nat) ≠ 9 by decide), upd_same, getD_set_other (show (9 : Nat) ≠ 2 by decide), getD_set_other (show (9 : Nat) ≠ 8 by decide), getD_set_other (show (9 : Nat) ≠ 10 by decide), getD_set_other (show (9 : Nat) ≠ 12 by decide), getD_set_eq hs]
                intro _
                rw [l8, l2, l10]
                exact hS.op9
              · simp only [upd_other (show (2 : Nat) ≠ 9 by decide), upd_other (show (8 : Nat) ≠ 9 by decide), upd_other (show (10 : Nat) ≠ 9 by decide), upd_same, getD_set_other (show (9 : Nat) ≠ 12 by decide)]
                intro h; rw [l12] at h; cases h
            rw [e8] at hgoal e29
            clear hF hpre hl hfx hA hZ hS hs l12 lk l8 l2 l10 hx8 hx8' e8
            go_simp
            exact ⟨_, rfl, hgoal⟩
          | 10, ho =>
            simp at ho
            subst ho
            refine step_plain rfl ?_
            have e22 := hF.gave 1 rfl (hpre ⟨1, .data⟩ (by simp) rfl) rfl
            have e30 := hF.gave 9 rfl (hpre ⟨9, .data⟩ (by simp) rfl) rfl
            have hs : 10 < L.size := by rw [hF.lsize]; decide
            obtain ⟨hfx, hA, hZ⟩ := hR
            have l12 := hF.later hl 12 rfl (e := ⟨10, .data⟩) (by simp) rfl rfl
            have hS := hA l12
            have v1 := hfx 1 _ rfl (hpre ⟨1, .data⟩ (by simp) rfl)
            rw [v1] at e22
            have lk : L.getD 10 false = false := by rw [← getD_same hs]; exact hl
            have l9 := hpre ⟨9, .data⟩ (by simp) rfl
            have l8 := hpre ⟨8, .chain⟩ (by simp) rfl
            have l2 := hF.closed 8 _ rfl l8 ⟨2, .data⟩ (by simp) rfl
            rw [lk, l2, l9, l8] at hS
            have hS' := hS
            obtain ⟨hgr, hrvo, g, hg3, hg4, hg5, _⟩ := hS'
            obtain ⟨q9, e9, hc9⟩ := hg5 rfl rfl
            rw [e9] at e30
            have hx8' := hg4 rfl
            rw [if_pos rfl, if_pos rfl] at hx8'
            obtain ⟨c8, e8, _⟩ := hx8'.slice
            have hle := hgr.size
            refine wpIn_append_all _ _ _ 23 rfl W.heap.size 22 i1 (.slice none 0 0) 1 24 Try.underlying23 hi1 hy0 hy1 hy2 rfl (by decide) _ k vs (by rw [Act.eval, Array.getD_eq_getD_getElem?]; exact e22) (hrvo rfl) (some ⟨q9, 0, none⟩) 1 1 [val 8] (by rw [Act.eval, Array.getD_eq_getD_getElem?]; exact e30) rfl (fun _ => ⟨_, rfl, fun j u hu => by match j, hu with | 0, hu => (simp at hu; subst hu; simpa [Addr.add] using hc9)⟩) (by intro u hu; simp at hu; subst hu; rw [e8]; rfl) ?c1 ?c2 (by omega) _ rfl ?_
            case c1 => unfold maxLen; omega
            case c2 => omega
            intro v' w1 hown' hgrow hat hnn
            refine ⟨_, rfl, fx_step hfx (by intro u hu; simp [fx5] at hu), ?_, ?_⟩
            · simp only [upd_other (show (2 : Nat) ≠ 10 by decide), upd_other (show (8 : Nat) ≠ 10 by decide), upd_other (show (9 : Nat) ≠ 10 by decide), upd_same, getD_set_other (show (10 : Nat) ≠ 2 by decide), getD_set_other (show (10 : Nat) ≠ 8 by decide), getD_set_other (show (10 : Nat) ≠ 9 by decide), getD_set_other (show (10 : Nat) ≠ 12 by decide), getD_set_eq hs]
              intro _
              rw [l2, l9, l8]
              exact hS.op10 hrvlt hgrow hown' hat
            · simp only [upd_other (show (2 : Nat) ≠ 10 by decide), upd_other (show (8 : Nat) ≠ 10 by decide), upd_other (show (9 : Nat) ≠ 10 by decide), upd_same, getD_set_other (show (10 : Nat) ≠ 12 by decide)]
              intro h; rw [l12] at h; cases h
          | 11, ho =>
            simp at ho
            subst ho
            refine step_plain rfl ?_
            have e3 := hF.was 3 (by kernel_rfl) rfl
            have hs : 11 < L.size := by rw [hF.lsize]; decide
            obtain ⟨hfx, hA, hZ⟩ := hR
            have l12 := hF.later hl 12 rfl (e := ⟨11, .data⟩) (by simp) rfl rfl
            have hS := hA l12
            have hgoal : ∀ v, (∀ u, fx5 w.heap.size b off V.length cv k A' r.length c' bo rv 11 = some u → v = u) → R5 (fx5 w.heap.size b off V.length cv k A' r.length c' bo rv) wr W.heap.size k rv vs r bo (upd val 11 v) (L.setIfInBounds 11 true) x' := fun v hv => by
              refine ⟨fx_step hfx hv, ?_, ?_⟩
              · simpa only [upd_other (show (2 : Nat) ≠ 11 by decide), upd_other (show (8 : Nat) ≠ 11 by decide), upd_other (show (9 : Nat) ≠ 11 by decide), upd_other (show (10 : Nat) ≠ 11 by decide), upd_same, getD_set_other (show (11 : Nat) ≠ 2 by decide), getD_set_other (show (11 : Nat) ≠ 8 by decide), getD_set_other (show (11 : Nat) ≠ 9 by decide), getD_set_other (show (11 : Nat) ≠ 10 by decide), getD_set_other (show (11 : Nat) ≠ 12 by decide), getD_set_eq hs] using hA
              · simpa only [upd_other (show (2 : Nat) ≠ 11 by decide), upd_other (show (8 : Nat) ≠ 11 by decide), upd_other (show (9 : Nat) ≠ 11 by decide), upd_other (show (10 : Nat) ≠ 11 by decide), upd_same, getD_set_other (show (11 : Nat) ≠ 2 by decide), getD_set_other (show (11 : Nat) ≠ 8 by decide), getD_set_other (show (11 : Nat) ≠ 9 by decide), getD_set_other (show (11 : Nat) ≠ 10 by decide), getD_set_other (show (11 : Nat) ≠ 12 by decide), getD_set_eq hs] using hZ
            clear hF hpre hl hfx hA hZ hS hs l12
            go_simp
            exact ⟨_, rfl, hgoal _ (by intro u hu; simpa [fx5] using hu)⟩
          | 12, ho =>
            simp at ho
            subst ho
            refine step_plain rfl ?_
            have e32 := hF.gave 11 rfl (hpre ⟨11, .data⟩ (by simp) rfl) rfl
            have e31 := hF.gave 10 rfl (hpre ⟨10, .data⟩ (by simp) rfl) rfl
            have hs : 12 < L.size := by rw [hF.lsize]; decide
            obtain ⟨hfx, hA, hZ⟩ := hR
            have v11 := hfx 11 _ rfl (hpre ⟨11, .data⟩ (by simp) rfl)
            rw [v11] at e32
            have lk : L.getD 12 false = false := by rw [← getD_same hs]; exact hl
            have hS := hA lk
            have l10 := hpre ⟨10, .data⟩ (by simp) rfl
            have l9 := hpre ⟨9, .phase⟩ (by simp) rfl
            have l8 := hpre ⟨8, .phase⟩ (by simp) rfl
            have l2 := hpre ⟨2, .phase⟩ (by simp) rfl
            rw [l10, l9, l8, l2] at hS
            have hS' := hS
            obtain ⟨hgr, _, g, hg3, hg4, hg5, hg6⟩ := hS'
            obtain ⟨hg7, _, _⟩ := hg6 rfl
            obtain ⟨g10, c10, e10⟩ := ownsRow_succ hg7
            have q0 : x'.cell? ⟨bo, 2, none⟩ = some rv := hcell hgr hol (block_cell (o := 2) hbox)
            have q1 : x'.frozen? ⟨bo, 2, none⟩ = false := (frozen_same (hgr.block bo (by omega) (fun h => by have := hrvM bo h.symm; omega))).trans (block_frozen (o := 2) hbox)
            have hgoal : R5 (fx5 w.heap.size b off V.length cv k A' r.length c' bo rv) wr W.heap.size k rv vs r bo (upd val 12 undef) (L.setIfInBounds 12 true) (x'.setCell ⟨bo, 2, none⟩ (val 10)) := by
              refine ⟨fx_step hfx (by intro u hu; simp [fx5] at hu), ?_, ?_⟩
              · simp only [upd_other (show (2 : Nat) ≠ 12 by decide), upd_other (show (8 : Nat) ≠ 12 by decide), upd_other (show (9 : Nat) ≠ 12 by decide), upd_other (show (10 : Nat) ≠ 12 by decide), getD_set_other (show (12 : Nat) ≠ 2 by decide), getD_set_other (show (12 : Nat) ≠ 8 by decide), getD_set_other (show (12 : Nat) ≠ 9 by decide), getD_set_other (show (12 : Nat) ≠ 10 by decide), getD_set_eq hs]
                intro h; cases h
              · simp only [upd_other (show (2 : Nat) ≠ 12 by decide), upd_other (show (8 : Nat) ≠ 12 by decide), upd_other (show (9 : Nat) ≠ 12 by decide), upd_other (show (10 : Nat) ≠ 12 by decide), getD_set_eq hs]
                exact fun _ => ⟨x', hS, rfl⟩
            rw [e10] at hgoal e31
            clear hF hpre hl hfx hA hZ hS hs lk l10 l9 l8 l2 hgr hg3 hg4 hg5 hg6 hg7 e10
            go_simp
            exact ⟨undef, hgoal⟩
          | i + 13, ho => simp at ho
        case hend =>
          intro val L b' x' hF hall hR
          obtain ⟨hfx, hA, hZ⟩ := hR
          have e := hF.all (by kernel_rfl) hall
          obtain ⟨W1, hS, hWe⟩ := hZ (hall 12 (by decide))
          have hrs := Rows_.step HRO.out HR.out hS
          have hS' := hS
          obtain ⟨hgr, _, g, hg3, hg4, hg5, hg6⟩ := hS'
          obtain ⟨hg7, _, _⟩ := hg6 rfl
          have hgz := hgr.size
          have hb1 : W1.heap[bo]? = some (.cells #[.slice (some ⟨bx, 0, none⟩) X.length c3, .slice (some ⟨by_, 0, none⟩) Y.length c7, rv] 25 (0, 0)) := (hgr.block bo (by omega) (fun h => by have := hrvM bo h.symm; omega)).trans hbox
          have hoth : ∀ q, q ≠ bo → (W1.setCell ⟨bo, 2, none⟩ (val 10)).heap[q]? = W1.heap[q]? := fun q hq => heap_setCell_other _ _ _ _ hq
          have hsz' : (W1.setCell ⟨bo, 2, none⟩ (val 10)).heap.size = W1.heap.size := by simp [World.setCell]
          rw [← hWe] at hoth hsz'
          have r1 : x'.ownsRow W.heap.size 22 1 (val 10) (k + 1) (vs ++ [val 8]) := own_same hg7 (fun q hq => hoth q (by have := own_base hg7 hq; omega))
          have r2 : Rows_ W.heap.size x' (V.take (k + 1)) (val 10) (vs ++ [val 8]) := hrs.same (fun q hq => hoth q (by omega)) (by omega)
          have r3 : x'.heap[bo]? = some (.cells #[.slice (some ⟨bx, 0, none⟩) X.length c3, .slice (some ⟨by_, 0, none⟩) Y.length c7, val 10] 25 (0, 0)) := by
            rw [hWe, heap_setCell_same _ bo 2 _ _ (val 10) hb1]
            simp
          have r4 : ∀ q, q < W.heap.size → q ≠ bo → x'.heap[q]? = W.heap[q]? := fun q hq hne => ((hoth q hne).trans (hgr.block q (by omega) (fun h => by have := hrvM q h.symm; omega))).trans (HKP.out q hq hne)
          have r6 : Below w.heap.size w x' := by
            rw [hWe]
            exact (HBR.out.grown hgr (by omega) (fun q hq => by have := hrvM q hq; omega)).setCell (p := ⟨bo, 2, none⟩) (by simp; omega) _
          have r5 : W.heap.size ≤ x'.heap.size := by omega
          have HH := Lib.hid (And.intro r1 (And.intro r2 (And.intro r3 (And.intro r4 (And.intro r5 r6)))))
          clear hF hall hfx hA hZ hS hWe hrs hgr hg3 hg4 hg5 hg6 hg7 hb1 hoth hsz' r1 r2 r3 r4 r5 r6 HKP HOW HRO HBR hgz
          subst e
          simp [final, dstOf, List.range, List.range.loop]
          generalize val 0 = v0, val 1 = v1, val 2 = v2, val 3 = v3, val 4 = v4, val 5 = v5, val 6 = v6, val 7 = v7, val 8 = v8, val 9 = v9, val 10 = v10, val 11 = v11 at *
          go_wp2
          go_roundw
          case rel => exact ⟨k + 1, by omega, by go_num, _, _, HH.out⟩
          case measure => simp [intOf]; omega
      · obtain rfl : k = V.length := by omega
        rw [List.take_of_length_le (Nat.le_refl _)] at hrows
        have hrve : ∃ AV' cv', rv = .slice AV' V.length cv' := by
          obtain ⟨AV', cv', e, _⟩ := hrows.rows hown
          exact ⟨AV', cv', e⟩
        obtain ⟨AV', cv', rfl⟩ := hrve
        generalize hWF : ((wr.setCell ⟨w.heap.size + 1, 0, none⟩ (.slice (some ⟨bx, 0, none⟩) X.length c3)).setCell ⟨w.heap.size + 1, 1, none⟩ (.slice (some ⟨by_, 0, none⟩) Y.length c7)).setCell ⟨w.heap.size + 1, 2, none⟩ (.slice AV' V.length cv') = WF
        have hoth : ∀ q, q ≠ w.heap.size + 1 → WF.heap[q]? = wr.heap[q]? := fun q hq => by
          rw [← hWF, heap_setCell_other _ _ _ _ hq, heap_setCell_other _ _ _ _ hq, heap_setCell_other _ _ _ _ hq]
        have hFz : WF.heap.size = wr.heap.size := by rw [← hWF]; simp [World.setCell]
        have hbF : Below w.heap.size w WF := by
          rw [← hWF]
          exact ((hbw.setCell (p := ⟨w.heap.size + 1, 0, none⟩) (by simp) _).setCell (p := ⟨w.heap.size + 1, 1, none⟩) (by simp) _).setCell (p := ⟨w.heap.size + 1, 2, none⟩) (by simp) _
        obtain ⟨AV'', cv'', e'', hrr⟩ := (hrows.same (W' := WF) (fun q hq => hoth q (by omega)) (by omega)).rows (own_same hown (fun q hq => hoth q (by have := own_base hown hq; omega)))
        have hxw : ∀ (b : Nat) (l : List Int), w.heap.size + 2 ≤ b → b < W.heap.size → b ≠ bo → RI W W.heap.size (some ⟨b, 0, none⟩) l → RI WF WF.heap.size (some ⟨b, 0, none⟩) l := fun b l hw hb hne hri hp => by
          obtain ⟨b', off, e, _, hc⟩ := hri hp
          simp at e
          obtain ⟨rfl, rfl⟩ := e
          exact ⟨b, 0, rfl, by omega, fun j u hu => ((cell_same (hoth b (by omega))).trans (cell_same (hkeep b hb hne))).trans (hc j u hu)⟩
        have htb : TB WF WF.heap.size (some ⟨bx, 0, none⟩) (some ⟨by_, 0, none⟩) AV' X Y V := ⟨hxw bx X hxb hxl nxo HRX.out, hxw by_ Y hyb hyl nyo HRY.out, by simp at e''; rw [e''.1]; exact hrr⟩
        have hfr : Frs w.heap.size (fun W' => TB W' W'.heap.size (some ⟨bx, 0, none⟩) (some ⟨by_, 0, none⟩) AV' X Y V) WF := by
          intro W' hz' hs'
          refine ⟨?_, ?_, ?_⟩
          · intro hp
            obtain ⟨b', off, e, hb', hc⟩ := htb.x hp
            simp at e
            obtain ⟨rfl, rfl⟩ := e
            exact ⟨_, _, rfl, by omega, fun j u hu => (cell_same (hs' _ (by omega) hb')).trans (hc j u hu)⟩
          · intro hp
            obtain ⟨b', off, e, hb', hc⟩ := htb.y hp
            simp at e
            obtain ⟨rfl, rfl⟩ := e
            exact ⟨_, _, rfl, by omega, fun j u hu => (cell_same (hs' _ (by omega) hb')).trans (hc j u hu)⟩
          · have hW1 := cut_size W' hz'
            have hW2 : ∀ q, W.heap.size ≤ q → (cutW W' WF.heap.size).heap[q]? = WF.heap[q]? := fun q hq => by
              by_cases hlt : q < WF.heap.size
              · rw [cut_get W' hlt]
                exact hs' q (by omega) hlt
              · rw [Array.getElem?_eq_none (by omega), Array.getElem?_eq_none (by omega)]
            obtain ⟨A3, c3', e3, hr3⟩ := ((hrows.same (W' := WF) (fun q hq => hoth q (by omega)) (by omega)).same (W' := cutW W' WF.heap.size) hW2 (by omega)).rows (own_same (own_same hown (fun q hq => hoth q (by have := own_base hown hq; omega))) (fun q hq => hW2 q (own_base hown hq)))
            simp at e3
            rw [e3.1]
            exact (hr3.keep (fun p hp => by
              obtain ⟨pb, po, ps⟩ := p
              have := cut_get W' (n := WF.heap.size) (q := pb) (by simpa [hW1] using hp)
              simp only [World.cell?]
              rw [this])).more (by omega)
        have HTB := Lib.hid (And.intro hfr hbF)
        rw [← hWF] at HTB
        clear hoth hFz hbF hrr hxw htb e'' hWF
        have q3 : wr.cell? ⟨bo, 0, none⟩ = some (.slice (some ⟨bx, 0, none⟩) X.length c3) := block_cell (o := 0) hbox
        have q4 : wr.cell? ⟨bo, 1, none⟩ = some (.slice (some ⟨by_, 0, none⟩) Y.length c7) := block_cell (o := 1) hbox
        have q5 : wr.cell? ⟨bo, 2, none⟩ = some (.slice AV' V.length cv') := block_cell (o := 2) hbox
        have hk1 : ∀ o, wr.cell? ⟨w.heap.size + 1, o, none⟩ = W.cell? ⟨w.heap.size + 1, o, none⟩ := fun o => cell_same (hkeep _ (by omega) (by omega))
        have hk2 : ∀ o, wr.frozen? ⟨w.heap.size + 1, o, none⟩ = W.frozen? ⟨w.heap.size + 1, o, none⟩ := fun o => frozen_same (hkeep _ (by omega) (by omega))
        have y0 := (hk1 0).trans (tz 0 (by omega))
        have y1 := (hk1 1).trans (tz 1 (by omega))
        have y2 := (hk1 2).trans (tz 2 (by omega))
        have z0 := (hk2 0).trans (tf 0 (by omega))
        have z1 := (hk2 1).trans (tf 1 (by omega))
        have z2 := (hk2 2).trans (tf 2 (by omega))
        have hg1 : w.heap.size + 1 < wr.heap.size := by omega
        have s0 : (wr.setCell ⟨w.heap.size + 1, 0, none⟩ (.slice (some ⟨bx, 0, none⟩) X.length c3)).cell? ⟨w.heap.size + 1, 0, none⟩ = some (.slice (some ⟨bx, 0, none⟩) X.length c3) := World.cell?_setCell_same' _ _ _ (by rw [y0]; rfl)
        have s1 : ((wr.setCell ⟨w.heap.size + 1, 0, none⟩ (.slice (some ⟨bx, 0, none⟩) X.length c3)).setCell ⟨w.heap.size + 1, 1, none⟩ (.slice (some ⟨by_, 0, none⟩) Y.length c7)).cell? ⟨w.heap.size + 1, 1, none⟩ = some (.slice (some ⟨by_, 0, none⟩) Y.length c7) := World.cell?_setCell_same' _ _ _ (by go_simp)
        have s2 : (((wr.setCell ⟨w.heap.size + 1, 0, none⟩ (.slice (some ⟨bx, 0, none⟩) X.length c3)).setCell ⟨w.heap.size + 1, 1, none⟩ (.slice (some ⟨by_, 0, none⟩) Y.length c7)).setCell ⟨w.heap.size + 1, 2, none⟩ (.slice AV' V.length cv')).cell? ⟨w.heap.size + 1, 2, none⟩ = some (.slice AV' V.length cv') := World.cell?_setCell_same' _ _ _ (by go_simp)
        clear hk1 hk2 hrows hown hkeep hbox HRX HRY HRR HO hbw tz tf hrvM hrvlt hcell
        go_wp2
        refine bodyPost_ret (v := .agg #[.slice (some ⟨bx, 0, none⟩) X.length c3, .slice (some ⟨by_, 0, none⟩) Y.length c7, .slice AV' V.length cv']) (by simp [results, Try.results108, go_sem, s0, s1, s2]) rfl ?_
        exact ⟨_, _, _, _, _, _, rfl, HTB.out⟩

end Go.Proofs.Ythhokiigdgpmcaa

/- Copy of a rotor; own; Far. -/
namespace Go.Proofs.Ythhokiigdgpmcaa
open Go.RowKit

theorem BK.set3 {w : World} {g k : Nat} {cs ds : Array Value} {T : TypeId} {a b c : Value} (h : BK w g cs T) (e : ((cs.setIfInBounds k a).setIfInBounds (k + 1) b).setIfInBounds (k + 2) c = ds) :
    BK (((w.setCell ⟨g, k, none⟩ a).setCell ⟨g, k + 1, none⟩ b).setCell ⟨g, k + 2, none⟩ c) g ds T := by
  subst e
  exact ((h.set).set).set
theorem BK.old3 {w : World} {g q i j k : Nat} {cs : Array Value} {T : TypeId} {a b c : Value} (h : BK w q cs T) (hq : q ≠ g) :
    BK (((w.setCell ⟨g, i, none⟩ a).setCell ⟨g, j, none⟩ b).setCell ⟨g, k, none⟩ c) q cs T := ((h.setO hq).setO hq).setO hq
theorem below_set3 {w w' : World} {B g i j k : Nat} {a b c : Value} (h : Below B w w') (hg : B ≤ g) : Below B w (((w'.setCell ⟨g, i, none⟩ a).setCell ⟨g, j, none⟩ b).setCell ⟨g, k, none⟩ c) :=
  ((h.setCell (p := ⟨g, i, none⟩) hg _).setCell (p := ⟨g, j, none⟩) hg _).setCell (p := ⟨g, k, none⟩) hg _
theorem Frs.less {M N : Nat} {p : World → Prop} {w : World} (h : Frs N p w) (hl : M ≤ N) : Frs M p w := fun W h1 h2 => h W h1 fun q hq => h2 q (by omega)
theorem Frs.set3 {w : World} {M g i j k : Nat} {a b c : Value} {p : World → Prop} (h : Frs M p w) (hg : g < M) : Frs M p (((w.setCell ⟨g, i, none⟩ a).setCell ⟨g, j, none⟩ b).setCell ⟨g, k, none⟩ c) :=
  h.next (by simp [World.setCell]) fun q hq _ => by
    have hne : q ≠ g := by omega
    rw [Below.heap_setCell _ _ _ _ hne, Below.heap_setCell _ _ _ _ hne, Below.heap_setCell _ _ _ _ hne]
theorem Frs.row {w : World} {M g : Nat} {cs : Array Value} {p : World → Prop} (h : Frs M p w) (hg : g < M) : Frs M p (w.setRow g cs) :=
  h.next (by simp) fun q hq _ => setRow_other w g q cs (by omega)
def GivesTV (t : TV) (w : World) (e : Ending) (w' : World) : Prop := ∃ u : TV, e = .returned (.agg #[.slice u.ax u.X.length u.cx, .slice u.ay u.Y.length u.cy, .slice u.av u.V.length u.cv]) ∧ t.same u ∧ Frs w.heap.size (fun W => TG W u) w' ∧ Below w.heap.size w w'
def TV.small (t : TV) : Prop := t.X.length ≤ 1000000 ∧ t.Y.length ≤ 1000000 ∧ t.V.length ≤ 1000000 ∧ ∀ r ∈ t.V, r.length ≤ 1000000
theorem tcopy_any (t : TV) (w : World) (ht : TG w t) (hs : t.small) : Calls Try.prog 108 #[.agg #[.slice t.ax t.X.length t.cx, .slice t.ay t.Y.length t.cy, .slice t.av t.V.length t.cv]] w (GivesTV t w) := by
  obtain ⟨s1, s2, s3, s4⟩ := hs
  refine (copyF_any t.ax t.ay t.av _ t.cx _ t.cy _ t.cv w.heap.size t.X t.Y t.V w rfl rfl rfl s1 s2 s3 s4 (Nat.le_refl _) ht.tb).mono ?_
  rintro e w' ⟨ax, cx, ay, cy, av, cv, rfl, htb, hb⟩
  exact ⟨⟨ax, cx, ay, cy, av, cv, t.X, t.Y, t.V⟩, rfl, ⟨rfl, rfl, rfl⟩, fun W h1 h2 => ⟨ht.hx, ht.hy, ht.hv, ht.hr, htb W h1 h2⟩, hb⟩
def RO.small (r : RO) : Prop := r.h.small ∧ r.g.small ∧ r.l.small ∧ r.p.small ∧ r.n.small ∧ r.a.small ∧ r.b.small ∧ r.d.small
theorem TV.small_of {t : TV} (h : t.far = false) : t.small := by
  obtain ⟨h1, h2, h3, h4⟩ := farB_no h
  exact ⟨by omega, by omega, by omega, fun r hr => by have := h4 r hr; omega⟩
theorem RO.small_of {r : RO} (h : r.far = false) : r.small := by
  unfold RO.far at h
  simp only [Bool.or_eq_false_iff] at h
  obtain ⟨h1, h2, h3, h4, h5, h6, h7, h8⟩ := h
  exact ⟨TV.small_of h1, TV.small_of h2, TV.small_of h3, TV.small_of h4, TV.small_of h5, TV.small_of h6, TV.small_of h7, TV.small_of h8⟩
/-- A copied rotor. -/
def GivesRO (r : RO) (w : World) (e : Ending) (w' : World) : Prop := ∃ q : RO, e = .returned (.agg #[.slice q.h.ax q.h.X.length q.h.cx, .slice q.h.ay q.h.Y.length q.h.cy, .slice q.h.av q.h.V.length q.h.cv, .slice q.g.ax q.g.X.length q.g.cx, .slice q.g.ay q.g.Y.length q.g.cy, .slice q.g.av q.g.V.length q.g.cv, .slice q.l.ax q.l.X.length q.l.cx, .slice q.l.ay q.l.Y.length q.l.cy, .slice q.l.av q.l.V.length q.l.cv, .slice q.p.ax q.p.X.length q.p.cx, .slice q.p.ay q.p.Y.length q.p.cy, .slice q.p.av q.p.V.length q.p.cv, .slice q.n.ax q.n.X.length q.n.cx, .slice q.n.ay q.n.Y.length q.n.cy, .slice q.n.av q.n.V.length q.n.cv, .slice q.a.ax q.a.X.length q.a.cx, .slice q.a.ay q.a.Y.length q.a.cy, .slice q.a.av q.a.V.length q.a.cv, .slice q.b.ax q.b.X.length q.b.cx, .slice q.b.ay q.b.Y.length q.b.cy, .slice q.b.av q.b.V.length q.b.cv, .slice q.d.ax q.d.X.length q.d.cx, .slice q.d.ay q.d.Y.length q.d.cy, .slice q.d.av q.d.V.length q.d.cv, .int .i64 q.cl, .int .i64 q.bu]) ∧ r.same q ∧ Frs w.heap.size (fun W => RG W q) w' ∧ Below w.heap.size w w'

set_option maxRecDepth 100000

set_option maxHeartbeats 4000000 in
theorem rcopy_any (r : RO) (w : World) (rg : RG w r) (hs : r.small) (CS : Array Value) (hc : CS = #[.slice r.h.ax r.h.X.length r.h.cx, .slice r.h.ay r.h.Y.length r.h.cy, .slice r.h.av r.h.V.length r.h.cv, .slice r.g.ax r.g.X.length r.g.cx, .slice r.g.ay r.g.Y.length r.g.cy, .slice r.g.av r.g.V.length r.g.cv, .slice r.l.ax r.l.X.length r.l.cx, .slice r.l.ay r.l.Y.length r.l.cy, .slice r.l.av r.l.V.length r.l.cv, .slice r.p.ax r.p.X.length r.p.cx, .slice r.p.ay r.p.Y.length r.p.cy, .slice r.p.av r.p.V.length r.p.cv, .slice r.n.ax r.n.X.length r.n.cx, .slice r.n.ay r.n.Y.length r.n.cy, .slice r.n.av r.n.V.length r.n.cv, .slice r.a.ax r.a.X.length r.a.cx, .slice r.a.ay r.a.Y.length r.a.cy, .slice r.a.av r.a.V.length r.a.cv, .slice r.b.ax r.b.X.length r.b.cx, .slice r.b.ay r.b.Y.length r.b.cy, .slice r.b.av r.b.V.length r.b.cv, .slice r.d.ax r.d.X.length r.d.cx, .slice r.d.ay r.d.Y.length r.d.cy, .slice r.d.av r.d.V.length r.d.cv, .int .i64 r.cl, .int .i64 r.bu]) : Calls Try.prog 54 #[.agg CS] w (GivesRO r w) := by
  obtain ⟨s0, s1, s2, s3, s4, s5, s6, s7⟩ := hs
  have H0 := Lib.hid (fun (W : World) (hW : Below w.heap.size w W) => tcopy_any r.h W (rg.h.below hW) s0)
  have H1 := Lib.hid (fun (W : World) (hW : Below w.heap.size w W) => tcopy_any r.g W (rg.g.below hW) s1)
  have H2 := Lib.hid (fun (W : World) (hW : Below w.heap.size w W) => tcopy_any r.l W (rg.l.below hW) s2)
  have H3 := Lib.hid (fun (W : World) (hW : Below w.heap.size w W) => tcopy_any r.p W (rg.p.below hW) s3)
  have H4 := Lib.hid (fun (W : World) (hW : Below w.heap.size w W) => tcopy_any r.n W (rg.n.below hW) s4)
  have H5 := Lib.hid (fun (W : World) (hW : Below w.heap.size w W) => tcopy_any r.a W (rg.a.below hW) s5)
  have H6 := Lib.hid (fun (W : World) (hW : Below w.heap.size w W) => tcopy_any r.b W (rg.b.below hW) s6)
  have H7 := Lib.hid (fun (W : World) (hW : Below w.heap.size w W) => tcopy_any r.d W (rg.d.below hW) s7)
  have hsz : CS.size = 26 := by rw [hc]; rfl
  have hon : CS.all (·.oneCell') = true := by rw [hc]; simp [Value.oneCell']
  have HC := Lib.hid hc
  have HSZ := Lib.hid hsz
  have HON := Lib.hid hon
  have RG0 := Lib.hid rg
  clear rg s0 s1 s2 s3 s4 s5 s6 s7 hc hsz hon
  have X1 := Lib.hid (((BK.new (w := w) (cs := CS) (T := 27)).old (x := .cells #[.slice none 0 0, .slice none 0 0, .slice none 0 0, .slice none 0 0, .slice none 0 0, .slice none 0 0, .slice none 0 0, .slice none 0 0, .slice none 0 0, .slice none 0 0, .slice none 0 0, .slice none 0 0, .slice none 0 0, .slice none 0 0, .slice none 0 0, .slice none 0 0, .slice none 0 0, .slice none 0 0, .slice none 0 0, .slice none 0 0, .slice none 0 0, .slice none 0 0, .slice none 0 0, .slice none 0 0, .int .i64 0, .int .i64 0] 27)))
  have Y1 := Lib.hid (X1.out.old (x := .cells #[.slice none 0 0, .slice none 0 0, .slice none 0 0, .slice none 0 0, .slice none 0 0, .slice none 0 0, .slice none 0 0, .slice none 0 0, .slice none 0 0, .slice none 0 0, .slice none 0 0, .slice none 0 0, .slice none 0 0, .slice none 0 0, .slice none 0 0, .slice none 0 0, .slice none 0 0, .slice none 0 0, .slice none 0 0, .slice none 0 0, .slice none 0 0, .slice none 0 0, .slice none 0 0, .slice none 0 0, .int .i64 0, .int .i64 0] 27))
  have Y2 := Lib.hid ((BK.newg (w := w.alloc (.cells CS 27)) (g := w.heap.size + 1) (cs := #[.slice none 0 0, .slice none 0 0, .slice none 0 0, .slice none 0 0, .slice none 0 0, .slice none 0 0, .slice none 0 0, .slice none 0 0, .slice none 0 0, .slice none 0 0, .slice none 0 0, .slice none 0 0, .slice none 0 0, .slice none 0 0, .slice none 0 0, .slice none 0 0, .slice none 0 0, .slice none 0 0, .slice none 0 0, .slice none 0 0, .slice none 0 0, .slice none 0 0, .slice none 0 0, .slice none 0 0, .int .i64 0, .int .i64 0]) (T := 27) (by simp)).old (x := .cells #[.slice none 0 0, .slice none 0 0, .slice none 0 0, .slice none 0 0, .slice none 0 0, .slice none 0 0, .slice none 0 0, .slice none 0 0, .slice none 0 0, .slice none 0 0, .slice none 0 0, .slice none 0 0, .slice none 0 0, .slice none 0 0, .slice none 0 0, .slice none 0 0, .slice none 0 0, .slice none 0 0, .slice none 0 0, .slice none 0 0, .slice none 0 0, .slice none 0 0, .slice none 0 0, .slice none 0 0, .int .i64 0, .int .i64 0] 27))
  have Y3 := Lib.hid (BK.newg (w := ((w.alloc (.cells CS 27)).alloc (.cells #[.slice none 0 0, .slice none 0 0, .slice none 0 0, .slice none 0 0, .slice none 0 0, .slice none 0 0, .slice none 0 0, .slice none 0 0, .slice none 0 0, .slice none 0 0, .slice none 0 0, .slice none 0 0, .slice none 0 0, .slice none 0 0, .slice none 0 0, .slice none 0 0, .slice none 0 0, .slice none 0 0, .slice none 0 0, .slice none 0 0, .slice none 0 0, .slice none 0 0, .slice none 0 0, .slice none 0 0, .int .i64 0, .int .i64 0] 27))) (g := w.heap.size + 1 + 1) (cs := #[.slice none 0 0, .slice none 0 0, .slice none 0 0, .slice none 0 0, .slice none 0 0, .slice none 0 0, .slice none 0 0, .slice none 0 0, .slice none 0 0, .slice none 0 0, .slice none 0 0, .slice none 0 0, .slice none 0 0, .slice none 0 0, .slice none 0 0, .slice none 0 0, .slice none 0 0, .slice none 0 0, .slice none 0 0, .slice none 0 0, .slice none 0 0, .slice none 0 0, .slice none 0 0, .slice none 0 0, .int .i64 0, .int .i64 0]) (T := 27) (by simp))
  go_enter Try.func54, Try.ntmps54
  go_upto_region 2 with (first
    | ((with_reducible refine ldR X1.out HSZ.out ?_ ?_); rfl)
    | ((with_reducible refine stR Y3.out ?_ ?_ ?_ HSZ.out HON.out ?_); rfl; rfl; rfl))
  obtain ⟨W4, hW4⟩ : ∃ W, (((w.alloc (.cells CS 27)).alloc (.cells #[.slice none 0 0, .slice none 0 0, .slice none 0 0, .slice none 0 0, .slice none 0 0, .slice none 0 0, .slice none 0 0, .slice none 0 0, .slice none 0 0, .slice none 0 0, .slice none 0 0, .slice none 0 0, .slice none 0 0, .slice none 0 0, .slice none 0 0, .slice none 0 0, .slice none 0 0, .slice none 0 0, .slice none 0 0, .slice none 0 0, .slice none 0 0, .slice none 0 0, .slice none 0 0, .slice none 0 0, .int .i64 0, .int .i64 0] 27)).alloc (.cells #[.slice none 0 0, .slice none 0 0, .slice none 0 0, .slice none 0 0, .slice none 0 0, .slice none 0 0, .slice none 0 0, .slice none 0 0, .slice none 0 0, .slice none 0 0, .slice none 0 0, .slice none 0 0, .slice none 0 0, .slice none 0 0, .slice none 0 0, .slice none 0 0, .slice none 0 0, .slice none 0 0, .slice none 0 0, .slice none 0 0, .slice none 0 0, .slice none 0 0, .slice none 0 0, .slice none 0 0, .int .i64 0, .int .i64 0] 27)).setRow (w.heap.size + 1 + 1) CS = W := ⟨_, rfl⟩
  rw [hW4]
  have A := Y1.out.rowO (g := w.heap.size + 1 + 1) (ds := CS) (by omega)
  have B := Y2.out.rowO (g := w.heap.size + 1 + 1) (ds := CS) (by omega)
  have C := Y3.out.row (ds := CS)
  have D := below_setRow (show Below w.heap.size w (((w.alloc (.cells CS 27)).alloc (.cells #[.slice none 0 0, .slice none 0 0, .slice none 0 0, .slice none 0 0, .slice none 0 0, .slice none 0 0, .slice none 0 0, .slice none 0 0, .slice none 0 0, .slice none 0 0, .slice none 0 0, .slice none 0 0, .slice none 0 0, .slice none 0 0, .slice none 0 0, .slice none 0 0, .slice none 0 0, .slice none 0 0, .slice none 0 0, .slice none 0 0, .slice none 0 0, .slice none 0 0, .slice none 0 0, .slice none 0 0, .int .i64 0, .int .i64 0] 27)).alloc (.cells #[.slice none 0 0, .slice none 0 0, .slice none 0 0, .slice none 0 0, .slice none 0 0, .slice none 0 0, .slice none 0 0, .slice none 0 0, .slice none 0 0, .slice none 0 0, .slice none 0 0, .slice none 0 0, .slice none 0 0, .slice none 0 0, .slice none 0 0, .slice none 0 0, .slice none 0 0, .slice none 0 0, .slice none 0 0, .slice none 0 0, .slice none 0 0, .slice none 0 0, .slice none 0 0, .slice none 0 0, .int .i64 0, .int .i64 0] 27)) by go_grown) (g := w.heap.size + 1 + 1) (by omega) CS
  rw [hW4] at A B C D
  rw [HC.out] at A C
  have A' := Lib.hid A
  have B' := Lib.hid B
  have C' := Lib.hid C
  have D' := Lib.hid D
  have f6 : W4.cell? ⟨w.heap.size, 0, none⟩ = some (.slice r.h.ax r.h.X.length r.h.cx) := A.cell _
  have f7 : W4.cell? ⟨w.heap.size, 1, none⟩ = some (.slice r.h.ay r.h.Y.length r.h.cy) := A.cell _
  have f8 : W4.cell? ⟨w.heap.size, 2, none⟩ = some (.slice r.h.av r.h.V.length r.h.cv) := A.cell _
  clear A B C D hW4 X1 Y1 Y2 Y3
  go_upto_region 10 with (first
    | (go_at_call_of 108 (Value.agg #[.slice r.h.ax r.h.X.length r.h.cx, .slice r.h.ay r.h.Y.length r.h.cy, .slice r.h.av r.h.V.length r.h.cv]); refine Calls.mono (H0.out _ D'.out) ?_; rintro e w1 ⟨t0, rfl, hs0, hg0, hb0⟩; have A0 := A'.out.keep hb0; have B0 := B'.out.keep hb0; have C0 := C'.out.keep hb0; have f00 : w1.cell? ⟨w.heap.size + 1 + 1, 0, none⟩ = some (.slice r.h.ax r.h.X.length r.h.cx) := C0.cell _; have f03 := C0.free 0; have f06 : w1.cell? ⟨w.heap.size, 3, none⟩ = some (.slice r.g.ax r.g.X.length r.g.cx) := A0.cell _; have f01 : w1.cell? ⟨w.heap.size + 1 + 1, 1, none⟩ = some (.slice r.h.ay r.h.Y.length r.h.cy) := C0.cell _; have f04 := C0.free 1; have f07 : w1.cell? ⟨w.heap.size, 4, none⟩ = some (.slice r.g.ay r.g.Y.length r.g.cy) := A0.cell _; have f02 : w1.cell? ⟨w.heap.size + 1 + 1, 2, none⟩ = some (.slice r.h.av r.h.V.length r.h.cv) := C0.cell _; have f05 := C0.free 2; have f08 : w1.cell? ⟨w.heap.size, 5, none⟩ = some (.slice r.g.av r.g.V.length r.g.cv) := A0.cell _; have l0 := C0.lt; have HB0 := Lib.hid (D'.out.trans (hb0.mono D'.out.size)); have G0 := Lib.hid (hg0.less (M := w.heap.size + 1 + 1 + 1) (by have := D'.out.size; have := C'.out.lt; omega));  have S0 := Lib.hid hs0; have N0 := Lib.hid hb0; have A0' := Lib.hid A0; have B0' := Lib.hid B0; have C0' := Lib.hid C0; clear hs0 hg0 hb0 A0 B0 C0 A' B' C' D' f6 f7 f8)
    | (go_at_call_of 108 (Value.agg #[.slice r.g.ax r.g.X.length r.g.cx, .slice r.g.ay r.g.Y.length r.g.cy, .slice r.g.av r.g.V.length r.g.cv]); refine Calls.mono (H1.out _ (below_set3 HB0.out (by omega))) ?_; rintro e w2 ⟨t1, rfl, hs1, hg1, hb1⟩; have A1 := (A0'.out.old3 (by omega)).keep hb1; have B1 := (B0'.out.old3 (by omega)).keep hb1; have C1 := (C0'.out.set3 (k := 0) (ds := #[.slice t0.ax t0.X.length t0.cx, .slice t0.ay t0.Y.length t0.cy, .slice t0.av t0.V.length t0.cv, .slice r.g.ax r.g.X.length r.g.cx, .slice r.g.ay r.g.Y.length r.g.cy, .slice r.g.av r.g.V.length r.g.cv, .slice r.l.ax r.l.X.length r.l.cx, .slice r.l.ay r.l.Y.length r.l.cy, .slice r.l.av r.l.V.length r.l.cv, .slice r.p.ax r.p.X.length r.p.cx, .slice r.p.ay r.p.Y.length r.p.cy, .slice r.p.av r.p.V.length r.p.cv, .slice r.n.ax r.n.X.length r.n.cx, .slice r.n.ay r.n.Y.length r.n.cy, .slice r.n.av r.n.V.length r.n.cv, .slice r.a.ax r.a.X.length r.a.cx, .slice r.a.ay r.a.Y.length r.a.cy, .slice r.a.av r.a.V.length r.a.cv, .slice r.b.ax r.b.X.length r.b.cx, .slice r.b.ay r.b.Y.length r.b.cy, .slice r.b.av r.b.V.length r.b.cv, .slice r.d.ax r.d.X.length r.d.cx, .slice r.d.ay r.d.Y.length r.d.cy, .slice r.d.av r.d.V.length r.d.cv, .int .i64 r.cl, .int .i64 r.bu]) rfl).keep hb1; have f10 : w2.cell? ⟨w.heap.size + 1 + 1, 3, none⟩ = some (.slice r.g.ax r.g.X.length r.g.cx) := C1.cell _; have f13 := C1.free 3; have f16 : w2.cell? ⟨w.heap.size, 6, none⟩ = some (.slice r.l.ax r.l.X.length r.l.cx) := A1.cell _; have f11 : w2.cell? ⟨w.heap.size + 1 + 1, 4, none⟩ = some (.slice r.g.ay r.g.Y.length r.g.cy) := C1.cell _; have f14 := C1.free 4; have f17 : w2.cell? ⟨w.heap.size, 7, none⟩ = some (.slice r.l.ay r.l.Y.length r.l.cy) := A1.cell _; have f12 : w2.cell? ⟨w.heap.size + 1 + 1, 5, none⟩ = some (.slice r.g.av r.g.V.length r.g.cv) := C1.cell _; have f15 := C1.free 5; have f18 : w2.cell? ⟨w.heap.size, 8, none⟩ = some (.slice r.l.av r.l.V.length r.l.cv) := A1.cell _; have l1 := C1.lt; have HB1 := Lib.hid ((below_set3 HB0.out (by omega)).trans (hb1.mono (by have := HB0.out.size; simp [World.setCell] <;> omega))); have G1 := Lib.hid (hg1.less (M := w.heap.size + 1 + 1 + 1) (by simp [World.setCell]; omega)); have G0 := Lib.hid ((G0.out.set3 (by omega)).below hb1);  have S1 := Lib.hid hs1; have N1 := Lib.hid hb1; have A1' := Lib.hid A1; have B1' := Lib.hid B1; have C1' := Lib.hid C1; clear hs1 hg1 hb1 A1 B1 C1 A0' B0' C0' l0 f00 f01 f02 f03 f04 f05 f06 f07 f08)
    | (go_at_call_of 108 (Value.agg #[.slice r.l.ax r.l.X.length r.l.cx, .slice r.l.ay r.l.Y.length r.l.cy, .slice r.l.av r.l.V.length r.l.cv]); refine Calls.mono (H2.out _ (below_set3 HB1.out (by omega))) ?_; rintro e w3 ⟨t2, rfl, hs2, hg2, hb2⟩; have A2 := (A1'.out.old3 (by omega)).keep hb2; have B2 := (B1'.out.old3 (by omega)).keep hb2; have C2 := (C1'.out.set3 (k := 3) (ds := #[.slice t0.ax t0.X.length t0.cx, .slice t0.ay t0.Y.length t0.cy, .slice t0.av t0.V.length t0.cv, .slice t1.ax t1.X.length t1.cx, .slice t1.ay t1.Y.length t1.cy, .slice t1.av t1.V.length t1.cv, .slice r.l.ax r.l.X.length r.l.cx, .slice r.l.ay r.l.Y.length r.l.cy, .slice r.l.av r.l.V.length r.l.cv, .slice r.p.ax r.p.X.length r.p.cx, .slice r.p.ay r.p.Y.length r.p.cy, .slice r.p.av r.p.V.length r.p.cv, .slice r.n.ax r.n.X.length r.n.cx, .slice r.n.ay r.n.Y.length r.n.cy, .slice r.n.av r.n.V.length r.n.cv, .slice r.a.ax r.a.X.length r.a.cx, .slice r.a.ay r.a.Y.length r.a.cy, .slice r.a.av r.a.V.length r.a.cv, .slice r.b.ax r.b.X.length r.b.cx, .slice r.b.ay r.b.Y.length r.b.cy, .slice r.b.av r.b.V.length r.b.cv, .slice r.d.ax r.d.X.length r.d.cx, .slice r.d.ay r.d.Y.length r.d.cy, .slice r.d.av r.d.V.length r.d.cv, .int .i64 r.cl, .int .i64 r.bu]) rfl).keep hb2; have f20 : w3.cell? ⟨w.heap.size + 1 + 1, 6, none⟩ = some (.slice r.l.ax r.l.X.length r.l.cx) := C2.cell _; have f23 := C2.free 6; have f26 : w3.cell? ⟨w.heap.size, 9, none⟩ = some (.slice r.p.ax r.p.X.length r.p.cx) := A2.cell _; have f21 : w3.cell? ⟨w.heap.size + 1 + 1, 7, none⟩ = some (.slice r.l.ay r.l.Y.length r.l.cy) := C2.cell _; have f24 := C2.free 7; have f27 : w3.cell? ⟨w.heap.size, 10, none⟩ = some (.slice r.p.ay r.p.Y.length r.p.cy) := A2.cell _; have f22 : w3.cell? ⟨w.heap.size + 1 + 1, 8, none⟩ = some (.slice r.l.av r.l.V.length r.l.cv) := C2.cell _; have f25 := C2.free 8; have f28 : w3.cell? ⟨w.heap.size, 11, none⟩ = some (.slice r.p.av r.p.V.length r.p.cv) := A2.cell _; have l2 := C2.lt; have HB2 := Lib.hid ((below_set3 HB1.out (by omega)).trans (hb2.mono (by have := HB1.out.size; simp [World.setCell] <;> omega))); have G2 := Lib.hid (hg2.less (M := w.heap.size + 1 + 1 + 1) (by simp [World.setCell]; omega)); have G0 := Lib.hid ((G0.out.set3 (by omega)).below hb2); have G1 := Lib.hid ((G1.out.set3 (by omega)).below hb2);  have S2 := Lib.hid hs2; have N2 := Lib.hid hb2; have A2' := Lib.hid A2; have B2' := Lib.hid B2; have C2' := Lib.hid C2; clear hs2 hg2 hb2 A2 B2 C2 A1' B1' C1' l1 f10 f11 f12 f13 f14 f15 f16 f17 f18)
    | (go_at_call_of 108 (Value.agg #[.slice r.p.ax r.p.X.length r.p.cx, .slice r.p.ay r.p.Y.length r.p.cy, .slice r.p.av r.p.V.length r.p.cv]); refine Calls.mono (H3.out _ (below_set3 HB2.out (by omega))) ?_; rintro e w4 ⟨t3, rfl, hs3, hg3, hb3⟩; have A3 := (A2'.out.old3 (by omega)).keep hb3; have B3 := (B2'.out.old3 (by omega)).keep hb3; have C3 := (C2'.out.set3 (k := 6) (ds := #[.slice t0.ax t0.X.length t0.cx, .slice t0.ay t0.Y.length t0.cy, .slice t0.av t0.V.length t0.cv, .slice t1.ax t1.X.length t1.cx, .slice t1.ay t1.Y.length t1.cy, .slice t1.av t1.V.length t1.cv, .slice t2.ax t2.X.length t2.cx, .slice t2.ay t2.Y.length t2.cy, .slice t2.av t2.V.length t2.cv, .slice r.p.ax r.p.X.length r.p.cx, .slice r.p.ay r.p.Y.length r.p.cy, .slice r.p.av r.p.V.length r.p.cv, .slice r.n.ax r.n.X.length r.n.cx, .slice r.n.ay r.n.Y.length r.n.cy, .slice r.n.av r.n.V.length r.n.cv, .slice r.a.ax r.a.X.length r.a.cx, .slice r.a.ay r.a.Y.length r.a.cy, .slice r.a.av r.a.V.length r.a.cv, .slice r.b.ax r.b.X.length r.b.cx, .slice r.b.ay r.b.Y.length r.b.cy, .slice r.b.av r.b.V.length r.b.cv, .slice r.d.ax r.d.X.length r.d.cx, .slice r.d.ay r.d.Y.length r.d.cy, .slice r.d.av r.d.V.length r.d.cv, .int .i64 r.cl, .int .i64 r.bu]) rfl).keep hb3; have f30 : w4.cell? ⟨w.heap.size + 1 + 1, 9, none⟩ = some (.slice r.p.ax r.p.X.length r.p.cx) := C3.cell _; have f33 := C3.free 9; have f36 : w4.cell? ⟨w.heap.size, 12, none⟩ = some (.slice r.n.ax r.n.X.length r.n.cx) := A3.cell _; have f31 : w4.cell? ⟨w.heap.size + 1 + 1, 10, none⟩ = some (.slice r.p.ay r.p.Y.length r.p.cy) := C3.cell _; have f34 := C3.free 10; have f37 : w4.cell? ⟨w.heap.size, 13, none⟩ = some (.slice r.n.ay r.n.Y.length r.n.cy) := A3.cell _; have f32 : w4.cell? ⟨w.heap.size + 1 + 1, 11, none⟩ = some (.slice r.p.av r.p.V.length r.p.cv) := C3.cell _; have f35 := C3.free 11; have f38 : w4.cell? ⟨w.heap.size, 14, none⟩ = some (.slice r.n.av r.n.V.length r.n.cv) := A3.cell _; have l3 := C3.lt; have HB3 := Lib.hid ((below_set3 HB2.out (by omega)).trans (hb3.mono (by have := HB2.out.size; simp [World.setCell] <;> omega))); have G3 := Lib.hid (hg3.less (M := w.heap.size + 1 + 1 + 1) (by simp [World.setCell]; omega)); have G0 := Lib.hid ((G0.out.set3 (by omega)).below hb3); have G1 := Lib.hid ((G1.out.set3 (by omega)).below hb3); have G2 := Lib.hid ((G2.out.set3 (by omega)).below hb3);  have S3 := Lib.hid hs3; have N3 := Lib.hid hb3; have A3' := Lib.hid A3; have B3' := Lib.hid B3; have C3' := Lib.hid C3; clear hs3 hg3 hb3 A3 B3 C3 A2' B2' C2' l2 f20 f21 f22 f23 f24 f25 f26 f27 f28)
    | (go_at_call_of 108 (Value.agg #[.slice r.n.ax r.n.X.length r.n.cx, .slice r.n.ay r.n.Y.length r.n.cy, .slice r.n.av r.n.V.length r.n.cv]); refine Calls.mono (H4.out _ (below_set3 HB3.out (by omega))) ?_; rintro e w5 ⟨t4, rfl, hs4, hg4, hb4⟩; have A4 := (A3'.out.old3 (by omega)).keep hb4; have B4 := (B3'.out.old3 (by omega)).keep hb4; have C4 := (C3'.out.set3 (k := 9) (ds := #[.slice t0.ax t0.X.length t0.cx, .slice t0.ay t0.Y.length t0.cy, .slice t0.av t0.V.length t0.cv, .slice t1.ax t1.X.length t1.cx, .slice t1.ay t1.Y.length t1.cy, .slice t1.av t1.V.length t1.cv, .slice t2.ax t2.X.length t2.cx, .slice t2.ay t2.Y.length t2.cy, .slice t2.av t2.V.length t2.cv, .slice t3.ax t3.X.length t3.cx, .slice t3.ay t3.Y.length t3.cy, .slice t3.av t3.V.length t3.cv, .slice r.n.ax r.n.X.length r.n.cx, .slice r.n.ay r.n.Y.length r.n.cy, .slice r.n.av r.n.V.length r.n.cv, .slice r.a.ax r.a.X.length r.a.cx, .slice r.a.ay r.a.Y.length r.a.cy, .slice r.a.av r.a.V.length r.a.cv, .slice r.b.ax r.b.X.length r.b.cx, .slice r.b.ay r.b.Y.length r.b.cy, .slice r.b.av r.b.V.length r.b.cv, .slice r.d.ax r.d.X.length r.d.cx, .slice r.d.ay r.d.Y.length r.d.cy, .slice r.d.av r.d.V.length r.d.cv, .int .i64 r.cl, .int .i64 r.bu]) rfl).keep hb4; have f40 : w5.cell? ⟨w.heap.size + 1 + 1, 12, none⟩ = some (.slice r.n.ax r.n.X.length r.n.cx) := C4.cell _; have f43 := C4.free 12; have f46 : w5.cell? ⟨w.heap.size, 15, none⟩ = some (.slice r.a.ax r.a.X.length r.a.cx) := A4.cell _; have f41 : w5.cell? ⟨w.heap.size + 1 + 1, 13, none⟩ = some (.slice r.n.ay r.n.Y.length r.n.cy) := C4.cell _; have f44 := C4.free 13; have f47 : w5.cell? ⟨w.heap.size, 16, none⟩ = some (.slice r.a.ay r.a.Y.length r.a.cy) := A4.cell _; have f42 : w5.cell? ⟨w.heap.size + 1 + 1, 14, none⟩ = some (.slice r.n.av r.n.V.length r.n.cv) := C4.cell _; have f45 := C4.free 14; have f48 : w5.cell? ⟨w.heap.size, 17, none⟩ = some (.slice r.a.av r.a.V.length r.a.cv) := A4.cell _; have l4 := C4.lt; have HB4 := Lib.hid ((below_set3 HB3.out (by omega)).trans (hb4.mono (by have := HB3.out.size; simp [World.setCell] <;> omega))); have G4 := Lib.hid (hg4.less (M := w.heap.size + 1 + 1 + 1) (by simp [World.setCell]; omega)); have G0 := Lib.hid ((G0.out.set3 (by omega)).below hb4); have G1 := Lib.hid ((G1.out.set3 (by omega)).below hb4); have G2 := Lib.hid ((G2.out.set3 (by omega)).below hb4); have G3 := Lib.hid ((G3.out.set3 (by omega)).below hb4);  have S4 := Lib.hid hs4; have N4 := Lib.hid hb4; have A4' := Lib.hid A4; have B4' := Lib.hid B4; have C4' := Lib.hid C4; clear hs4 hg4 hb4 A4 B4 C4 A3' B3' C3' l3 f30 f31 f32 f33 f34 f35 f36 f37 f38)
    | (go_at_call_of 108 (Value.agg #[.slice r.a.ax r.a.X.length r.a.cx, .slice r.a.ay r.a.Y.length r.a.cy, .slice r.a.av r.a.V.length r.a.cv]); refine Calls.mono (H5.out _ (below_set3 HB4.out (by omega))) ?_; rintro e w6 ⟨t5, rfl, hs5, hg5, hb5⟩; have A5 := (A4'.out.old3 (by omega)).keep hb5; have B5 := (B4'.out.old3 (by omega)).keep hb5; have C5 := (C4'.out.set3 (k := 12) (ds := #[.slice t0.ax t0.X.length t0.cx, .slice t0.ay t0.Y.length t0.cy, .slice t0.av t0.V.length t0.cv, .slice t1.ax t1.X.length t1.cx, .slice t1.ay t1.Y.length t1.cy, .slice t1.av t1.V.length t1.cv, .slice t2.ax t2.X.length t2.cx, .slice t2.ay t2.Y.length t2.cy, .slice t2.av t2.V.length t2.cv, .slice t3.ax t3.X.length t3.cx, .slice t3.ay t3.Y.length t3.cy, .slice t3.av t3.V.length t3.cv, .slice t4.ax t4.X.length t4.cx, .slice t4.ay t4.Y.length t4.cy, .slice t4.av t4.V.length t4.cv, .slice r.a.ax r.a.X.length r.a.cx, .slice r.a.ay r.a.Y.length r.a.cy, .slice r.a.av r.a.V.length r.a.cv, .slice r.b.ax r.b.X.length r.b.cx, .slice r.b.ay r.b.Y.length r.b.cy, .slice r.b.av r.b.V.length r.b.cv, .slice r.d.ax r.d.X.length r.d.cx, .slice r.d.ay r.d.Y.length r.d.cy, .slice r.d.av r.d.V.length r.d.cv, .int .i64 r.cl, .int .i64 r.bu]) rfl).keep hb5; have f50 : w6.cell? ⟨w.heap.size + 1 + 1, 15, none⟩ = some (.slice r.a.ax r.a.X.length r.a.cx) := C5.cell _; have f53 := C5.free 15; have f56 : w6.cell? ⟨w.heap.size, 18, none⟩ = some (.slice r.b.ax r.b.X.length r.b.cx) := A5.cell _; have f51 : w6.cell? ⟨w.heap.size + 1 + 1, 16, none⟩ = some (.slice r.a.ay r.a.Y.length r.a.cy) := C5.cell _; have f54 := C5.free 16; have f57 : w6.cell? ⟨w.heap.size, 19, none⟩ = some (.slice r.b.ay r.b.Y.length r.b.cy) := A5.cell _; have f52 : w6.cell? ⟨w.heap.size + 1 + 1, 17, none⟩ = some (.slice r.a.av r.a.V.length r.a.cv) := C5.cell _; have f55 := C5.free 17; have f58 : w6.cell? ⟨w.heap.size, 20, none⟩ = some (.slice r.b.av r.b.V.length r.b.cv) := A5.cell _; have l5 := C5.lt; have HB5 := Lib.hid ((below_set3 HB4.out (by omega)).trans (hb5.mono (by have := HB4.out.size; simp [World.setCell] <;> omega))); have G5 := Lib.hid (hg5.less (M := w.heap.size + 1 + 1 + 1) (by simp [World.setCell]; omega)); have G0 := Lib.hid ((G0.out.set3 (by omega)).below hb5); have G1 := Lib.hid ((G1.out.set3 (by omega)).below hb5); have G2 := Lib.hid ((G2.out.set3 (by omega)).below hb5); have G3 := Lib.hid ((G3.out.set3 (by omega)).below hb5); have G4 := Lib.hid ((G4.out.set3 (by omega)).below hb5);  have S5 := Lib.hid hs5; have N5 := Lib.hid hb5; have A5' := Lib.hid A5; have B5' := Lib.hid B5; have C5' := Lib.hid C5; clear hs5 hg5 hb5 A5 B5 C5 A4' B4' C4' l4 f40 f41 f42 f43 f44 f45 f46 f47 f48)
    | (go_at_call_of 108 (Value.agg #[.slice r.b.ax r.b.X.length r.b.cx, .slice r.b.ay r.b.Y.length r.b.cy, .slice r.b.av r.b.V.length r.b.cv]); refine Calls.mono (H6.out _ (below_set3 HB5.out (by omega))) ?_; rintro e w7 ⟨t6, rfl, hs6, hg6, hb6⟩; have A6 := (A5'.out.old3 (by omega)).keep hb6; have B6 := (B5'.out.old3 (by omega)).keep hb6; have C6 := (C5'.out.set3 (k := 15) (ds := #[.slice t0.ax t0.X.length t0.cx, .slice t0.ay t0.Y.length t0.cy, .slice t0.av t0.V.length t0.cv, .slice t1.ax t1.X.length t1.cx, .slice t1.ay t1.Y.length t1.cy, .slice t1.av t1.V.length t1.cv, .slice t2.ax t2.X.length t2.cx, .slice t2.ay t2.Y.length t2.cy, .slice t2.av t2.V.length t2.cv, .slice t3.ax t3.X.length t3.cx, .slice t3.ay t3.Y.length t3.cy, .slice t3.av t3.V.length t3.cv, .slice t4.ax t4.X.length t4.cx, .slice t4.ay t4.Y.length t4.cy, .slice t4.av t4.V.length t4.cv, .slice t5.ax t5.X.length t5.cx, .slice t5.ay t5.Y.length t5.cy, .slice t5.av t5.V.length t5.cv, .slice r.b.ax r.b.X.length r.b.cx, .slice r.b.ay r.b.Y.length r.b.cy, .slice r.b.av r.b.V.length r.b.cv, .slice r.d.ax r.d.X.length r.d.cx, .slice r.d.ay r.d.Y.length r.d.cy, .slice r.d.av r.d.V.length r.d.cv, .int .i64 r.cl, .int .i64 r.bu]) rfl).keep hb6; have f60 : w7.cell? ⟨w.heap.size + 1 + 1, 18, none⟩ = some (.slice r.b.ax r.b.X.length r.b.cx) := C6.cell _; have f63 := C6.free 18; have f66 : w7.cell? ⟨w.heap.size, 21, none⟩ = some (.slice r.d.ax r.d.X.length r.d.cx) := A6.cell _; have f61 : w7.cell? ⟨w.heap.size + 1 + 1, 19, none⟩ = some (.slice r.b.ay r.b.Y.length r.b.cy) := C6.cell _; have f64 := C6.free 19; have f67 : w7.cell? ⟨w.heap.size, 22, none⟩ = some (.slice r.d.ay r.d.Y.length r.d.cy) := A6.cell _; have f62 : w7.cell? ⟨w.heap.size + 1 + 1, 20, none⟩ = some (.slice r.b.av r.b.V.length r.b.cv) := C6.cell _; have f65 := C6.free 20; have f68 : w7.cell? ⟨w.heap.size, 23, none⟩ = some (.slice r.d.av r.d.V.length r.d.cv) := A6.cell _; have l6 := C6.lt; have HB6 := Lib.hid ((below_set3 HB5.out (by omega)).trans (hb6.mono (by have := HB5.out.size; simp [World.setCell] <;> omega))); have G6 := Lib.hid (hg6.less (M := w.heap.size + 1 + 1 + 1) (by simp [World.setCell]; omega)); have G0 := Lib.hid ((G0.out.set3 (by omega)).below hb6); have G1 := Lib.hid ((G1.out.set3 (by omega)).below hb6); have G2 := Lib.hid ((G2.out.set3 (by omega)).below hb6); have G3 := Lib.hid ((G3.out.set3 (by omega)).below hb6); have G4 := Lib.hid ((G4.out.set3 (by omega)).below hb6); have G5 := Lib.hid ((G5.out.set3 (by omega)).below hb6);  have S6 := Lib.hid hs6; have N6 := Lib.hid hb6; have A6' := Lib.hid A6; have B6' := Lib.hid B6; have C6' := Lib.hid C6; clear hs6 hg6 hb6 A6 B6 C6 A5' B5' C5' l5 f50 f51 f52 f53 f54 f55 f56 f57 f58)
    | (go_at_call_of 108 (Value.agg #[.slice r.d.ax r.d.X.length r.d.cx, .slice r.d.ay r.d.Y.length r.d.cy, .slice r.d.av r.d.V.length r.d.cv]); refine Calls.mono (H7.out _ (below_set3 HB6.out (by omega))) ?_; rintro e w8 ⟨t7, rfl, hs7, hg7, hb7⟩; have A7 := (A6'.out.old3 (by omega)).keep hb7; have B7 := (B6'.out.old3 (by omega)).keep hb7; have C7 := (C6'.out.set3 (k := 18) (ds := #[.slice t0.ax t0.X.length t0.cx, .slice t0.ay t0.Y.length t0.cy, .slice t0.av t0.V.length t0.cv, .slice t1.ax t1.X.length t1.cx, .slice t1.ay t1.Y.length t1.cy, .slice t1.av t1.V.length t1.cv, .slice t2.ax t2.X.length t2.cx, .slice t2.ay t2.Y.length t2.cy, .slice t2.av t2.V.length t2.cv, .slice t3.ax t3.X.length t3.cx, .slice t3.ay t3.Y.length t3.cy, .slice t3.av t3.V.length t3.cv, .slice t4.ax t4.X.length t4.cx, .slice t4.ay t4.Y.length t4.cy, .slice t4.av t4.V.length t4.cv, .slice t5.ax t5.X.length t5.cx, .slice t5.ay t5.Y.length t5.cy, .slice t5.av t5.V.length t5.cv, .slice t6.ax t6.X.length t6.cx, .slice t6.ay t6.Y.length t6.cy, .slice t6.av t6.V.length t6.cv, .slice r.d.ax r.d.X.length r.d.cx, .slice r.d.ay r.d.Y.length r.d.cy, .slice r.d.av r.d.V.length r.d.cv, .int .i64 r.cl, .int .i64 r.bu]) rfl).keep hb7; have f70 : w8.cell? ⟨w.heap.size + 1 + 1, 21, none⟩ = some (.slice r.d.ax r.d.X.length r.d.cx) := C7.cell _; have f73 := C7.free 21; have f71 : w8.cell? ⟨w.heap.size + 1 + 1, 22, none⟩ = some (.slice r.d.ay r.d.Y.length r.d.cy) := C7.cell _; have f74 := C7.free 22; have f72 : w8.cell? ⟨w.heap.size + 1 + 1, 23, none⟩ = some (.slice r.d.av r.d.V.length r.d.cv) := C7.cell _; have f75 := C7.free 23; have l7 := C7.lt; have HB7 := Lib.hid ((below_set3 HB6.out (by omega)).trans (hb7.mono (by have := HB6.out.size; simp [World.setCell] <;> omega))); have G7 := Lib.hid (hg7.less (M := w.heap.size + 1 + 1 + 1) (by simp [World.setCell]; omega)); have G0 := Lib.hid ((G0.out.set3 (by omega)).below hb7); have G1 := Lib.hid ((G1.out.set3 (by omega)).below hb7); have G2 := Lib.hid ((G2.out.set3 (by omega)).below hb7); have G3 := Lib.hid ((G3.out.set3 (by omega)).below hb7); have G4 := Lib.hid ((G4.out.set3 (by omega)).below hb7); have G5 := Lib.hid ((G5.out.set3 (by omega)).below hb7); have G6 := Lib.hid ((G6.out.set3 (by omega)).below hb7);  have S7 := Lib.hid hs7; have N7 := Lib.hid hb7; have A7' := Lib.hid A7; have B7' := Lib.hid B7; have C7' := Lib.hid C7; clear hs7 hg7 hb7 A7 B7 C7 A6' B6' C6' l6 f60 f61 f62 f63 f64 f65 f66 f67 f68))
  have EC := Lib.hid (C7'.out.set3 (k := 21) (a := .slice t7.ax t7.X.length t7.cx) (b := .slice t7.ay t7.Y.length t7.cy) (c := .slice t7.av t7.V.length t7.cv) (ds := #[.slice t0.ax t0.X.length t0.cx, .slice t0.ay t0.Y.length t0.cy, .slice t0.av t0.V.length t0.cv, .slice t1.ax t1.X.length t1.cx, .slice t1.ay t1.Y.length t1.cy, .slice t1.av t1.V.length t1.cv, .slice t2.ax t2.X.length t2.cx, .slice t2.ay t2.Y.length t2.cy, .slice t2.av t2.V.length t2.cv, .slice t3.ax t3.X.length t3.cx, .slice t3.ay t3.Y.length t3.cy, .slice t3.av t3.V.length t3.cv, .slice t4.ax t4.X.length t4.cx, .slice t4.ay t4.Y.length t4.cy, .slice t4.av t4.V.length t4.cv, .slice t5.ax t5.X.length t5.cx, .slice t5.ay t5.Y.length t5.cy, .slice t5.av t5.V.length t5.cv, .slice t6.ax t6.X.length t6.cx, .slice t6.ay t6.Y.length t6.cy, .slice t6.av t6.V.length t6.cv, .slice t7.ax t7.X.length t7.cx, .slice t7.ay t7.Y.length t7.cy, .slice t7.av t7.V.length t7.cv, .int .i64 r.cl, .int .i64 r.bu]) rfl)
  have EB := Lib.hid (B7'.out.old3 (g := w.heap.size + 1 + 1) (i := 21) (j := 22) (k := 23) (a := .slice t7.ax t7.X.length t7.cx) (b := .slice t7.ay t7.Y.length t7.cy) (c := .slice t7.av t7.V.length t7.cv) (by omega))
  clear A7' B7' C7' f70 f71 f72 f73 f74 f75
  go_wp2_with (first
    | ((with_reducible refine ldR EC.out ?_ ?_ ?_); rfl; rfl)
    | ((with_reducible refine stR (CS := ?_) EB.out ?_ ?_ ?_ ?_ ?_ ?_); rotate_left; rfl; rfl; rfl; rfl; simp [Value.oneCell']))
  refine bodyPost_ret (v := .agg #[.slice t0.ax t0.X.length t0.cx, .slice t0.ay t0.Y.length t0.cy, .slice t0.av t0.V.length t0.cv, .slice t1.ax t1.X.length t1.cx, .slice t1.ay t1.Y.length t1.cy, .slice t1.av t1.V.length t1.cv, .slice t2.ax t2.X.length t2.cx, .slice t2.ay t2.Y.length t2.cy, .slice t2.av t2.V.length t2.cv, .slice t3.ax t3.X.length t3.cx, .slice t3.ay t3.Y.length t3.cy, .slice t3.av t3.V.length t3.cv, .slice t4.ax t4.X.length t4.cx, .slice t4.ay t4.Y.length t4.cy, .slice t4.av t4.V.length t4.cv, .slice t5.ax t5.X.length t5.cx, .slice t5.ay t5.Y.length t5.cy, .slice t5.av t5.V.length t5.cv, .slice t6.ax t6.X.length t6.cx, .slice t6.ay t6.Y.length t6.cy, .slice t6.av t6.V.length t6.cv, .slice t7.ax t7.X.length t7.cx, .slice t7.ay t7.Y.length t7.cy, .slice t7.av t7.V.length t7.cv, .int .i64 r.cl, .int .i64 r.bu]) ?_ rfl ?_
  · exact resR Try.results54 (by rfl) EB.out.row (by rfl)
  refine ⟨⟨t0, t1, t2, t3, t4, t5, t6, t7, r.cl, r.bu⟩, rfl, ⟨S0.out, S1.out, S2.out, S3.out, S4.out, S5.out, S6.out, S7.out, rfl, rfl⟩, ?_, below_setRow (below_set3 HB7.out (by omega)) (by omega) _⟩
  exact fun W h1 h2 => ⟨((G0.out.set3 (by omega)).row (by omega)).less (by omega) W h1 h2, ((G1.out.set3 (by omega)).row (by omega)).less (by omega) W h1 h2, ((G2.out.set3 (by omega)).row (by omega)).less (by omega) W h1 h2, ((G3.out.set3 (by omega)).row (by omega)).less (by omega) W h1 h2, ((G4.out.set3 (by omega)).row (by omega)).less (by omega) W h1 h2, ((G5.out.set3 (by omega)).row (by omega)).less (by omega) W h1 h2, ((G6.out.set3 (by omega)).row (by omega)).less (by omega) W h1 h2, ((G7.out.set3 (by omega)).row (by omega)).less (by omega) W h1 h2⟩
end Go.Proofs.Ythhokiigdgpmcaa

/- Layer 2: slices of looks. -/
namespace Go.Proofs.Ythhokiigdgpmcaa
open Go.RowKit

/-- A look's cells. -/
structure LC (w : World) (b o : Nat) (l : LO) : Prop where
  c0 : w.cell? ⟨b, o, none⟩ = some (.slice l.t.ax l.t.X.length l.t.cx)
  c1 : w.cell? ⟨b, o + 1, none⟩ = some (.slice l.t.ay l.t.Y.length l.t.cy)
  c2 : w.cell? ⟨b, o + 2, none⟩ = some (.slice l.t.av l.t.V.length l.t.cv)
  c3 : w.cell? ⟨b, o + 3, none⟩ = some (.int .i64 l.x.1)
  c4 : w.cell? ⟨b, o + 4, none⟩ = some (.int .i64 l.x.2)
  c5 : w.cell? ⟨b, o + 5, none⟩ = some (.int .i64 l.y.1)
  c6 : w.cell? ⟨b, o + 6, none⟩ = some (.int .i64 l.y.2)
theorem LC.cong {w w' : World} {b o : Nat} {l : LO} (h : LC w b o l) (hk : ∀ k, w'.cell? ⟨b, k, none⟩ = w.cell? ⟨b, k, none⟩) : LC w' b o l :=
  ⟨(hk _).trans h.c0, (hk _).trans h.c1, (hk _).trans h.c2, (hk _).trans h.c3, (hk _).trans h.c4, (hk _).trans h.c5, (hk _).trans h.c6⟩
/-- A slice of looks. -/
def RL (w : World) (B : Nat) (A : Option Addr) (L : List LO) : Prop :=
  0 < L.length → ∃ b off, A = some ⟨b, off, none⟩ ∧ b < B ∧ ∀ j l, L[j]? = some l → LC w b (off + j * 7) l
section
variable {w w' : World} {B B' : Nat} {A : Option Addr} {L : List LO}
theorem RL.at_ {k : Nat} (h : RL w B A L) (hk : k < L.length) : ∃ b off l, A = some ⟨b, off, none⟩ ∧ b < B ∧ L[k]? = some l ∧ LC w b (off + k * 7) l := by
  obtain ⟨b, off, e, hb, hc⟩ := h (by omega)
  exact ⟨b, off, L[k], e, hb, List.getElem?_eq_getElem hk, hc k _ (List.getElem?_eq_getElem hk)⟩
theorem RL.keep (h : RL w B A L) (hk : ∀ p : Addr, p.block < B → w'.cell? p = w.cell? p) : RL w' B A L := fun hn => by
  obtain ⟨b, off, e, hb, hc⟩ := h hn
  exact ⟨b, off, e, hb, fun j l hl => (hc j l hl).cong fun k => hk ⟨b, k, none⟩ hb⟩
theorem RL.below (h : RL w B A L) (hb : Below B w w') : RL w' B A L := h.keep fun _ hp => hb.cell hp
theorem RL.more (h : RL w B A L) (hB : B ≤ B') : RL w B' A L := fun hn => by
  obtain ⟨b, off, e, hb, hc⟩ := h hn
  exact ⟨b, off, e, by omega, hc⟩
theorem RL.new1 {l0 : LO} {T : TypeId} {m : Nat × Nat} {b : Nat} (hb : w.heap.size = b) : RL (w.alloc (.cells #[.slice l0.t.ax l0.t.X.length l0.t.cx, .slice l0.t.ay l0.t.Y.length l0.t.cy, .slice l0.t.av l0.t.V.length l0.t.cv, .int .i64 l0.x.1, .int .i64 l0.x.2, .int .i64 l0.y.1, .int .i64 l0.y.2] T m)) (b + 1) (some ⟨b, 0, none⟩) [l0] := fun _ =>
  ⟨_, _, rfl, by omega, fun j u hu => by
    subst hb
    match j, hu with
    | 0, hu => simp at hu; subst hu; constructor <;> (rw [cell_newest]; rfl)
    | j + 1, hu => simp at hu⟩
theorem RL.new2 {l0 l1 : LO} {T : TypeId} {m : Nat × Nat} {b : Nat} (hb : w.heap.size = b) : RL (w.alloc (.cells #[.slice l0.t.ax l0.t.X.length l0.t.cx, .slice l0.t.ay l0.t.Y.length l0.t.cy, .slice l0.t.av l0.t.V.length l0.t.cv, .int .i64 l0.x.1, .int .i64 l0.x.2, .int .i64 l0.y.1, .int .i64 l0.y.2, .slice l1.t.ax l1.t.X.length l1.t.cx, .slice l1.t.ay l1.t.Y.length l1.t.cy, .slice l1.t.av l1.t.V.length l1.t.cv, .int .i64 l1.x.1, .int .i64 l1.x.2, .int .i64 l1.y.1, .int .i64 l1.y.2] T m)) (b + 1) (some ⟨b, 0, none⟩) [l0, l1] := fun _ =>
  ⟨_, _, rfl, by omega, fun j u hu => by
    subst hb
    match j, hu with
    | 0, hu => simp at hu; subst hu; constructor <;> (rw [cell_newest]; rfl)
    | 1, hu => simp at hu; subst hu; constructor <;> (rw [cell_newest]; rfl)
    | j + 2, hu => simp at hu⟩
theorem RL.new3 {l0 l1 l2 : LO} {T : TypeId} {m : Nat × Nat} {b : Nat} (hb : w.heap.size = b) : RL (w.alloc (.cells #[.slice l0.t.ax l0.t.X.length l0.t.cx, .slice l0.t.ay l0.t.Y.length l0.t.cy, .slice l0.t.av l0.t.V.length l0.t.cv, .int .i64 l0.x.1, .int .i64 l0.x.2, .int .i64 l0.y.1, .int .i64 l0.y.2, .slice l1.t.ax l1.t.X.length l1.t.cx, .slice l1.t.ay l1.t.Y.length l1.t.cy, .slice l1.t.av l1.t.V.length l1.t.cv, .int .i64 l1.x.1, .int .i64 l1.x.2, .int .i64 l1.y.1, .int .i64 l1.y.2, .slice l2.t.ax l2.t.X.length l2.t.cx, .slice l2.t.ay l2.t.Y.length l2.t.cy, .slice l2.t.av l2.t.V.length l2.t.cv, .int .i64 l2.x.1, .int .i64 l2.x.2, .int .i64 l2.y.1, .int .i64 l2.y.2] T m)) (b + 1) (some ⟨b, 0, none⟩) [l0, l1, l2] := fun _ =>
  ⟨_, _, rfl, by omega, fun j u hu => by
    subst hb
    match j, hu with
    | 0, hu => simp at hu; subst hu; constructor <;> (rw [cell_newest]; rfl)
    | 1, hu => simp at hu; subst hu; constructor <;> (rw [cell_newest]; rfl)
    | 2, hu => simp at hu; subst hu; constructor <;> (rw [cell_newest]; rfl)
    | j + 3, hu => simp at hu⟩
end
end Go.Proofs.Ythhokiigdgpmcaa

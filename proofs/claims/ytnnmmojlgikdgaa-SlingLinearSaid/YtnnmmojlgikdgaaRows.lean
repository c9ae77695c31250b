/-
  No cell of these rows narrows 'for every input' (looked for: loops, veiled, ifaces, maps, wideKeys, modest, calm, conditions, laid).
  DERIVED. THE GIVEN ROWS OF THIS SEAT. 12 by the template 'for every input the law returns true; each argument reads behind the call as it read before'; 0 by the template 'total and deterministic' (their statements: YtnnmmojlgikdgaaTotals.lean).
  GIVEN WITH THE SEED: the statements are not yours to turn. If you find one false, say at which input.
  Laid BY PROGRAM, IN A SANDBOX (cutbox-rows.mjs): the forced cells as the released guide's own fill.sh prints them over the translation 609e5fb3e4ba8183… (all of the seat's roots in one cut). By AI agents, Wed Nov 11 2026. No macro, syntax, notation, axiom, sorry.
-/
import Derived.Test.YtnnmmojlgikdgaaChecked
import GoSem.Claim
import GoSem.ClaimJoined
import GoSem.ClaimMapViews
import Derived.JoinedTies
import Derived.KernelRfl
namespace Go.Proofs.Ytnnmmojlgikdgaa
/- THE CELL 'sum', in the pinned program and in every row, IS THE sha256 OF THE DUMP (.gsa) THAT YtnnmmojlgikdgaaProg.lean LOADS. Nothing in Lean hashes anything: it is a label: what it is worth is what the hold of that sum in a sandbox is worth. -/
noncomputable def Try.pinned : Pinned := { name := "ytnnmmojlgikdgaa", sum := "609e5fb3e4ba8183e80c068958953f07b38e67574039c8003b42930c6b6f6807", checked := Try.checked }
namespace Rows
def none {H : Type} : Left H := { results := [], args := [] }

/-- 'swashplatelaw07.SlingSwings': WHATEVER THE INPUT: true; the input reads as it did. -/
def slingSwingsSpec : ChangeSpec := { name := "slingSwings", fn := fun _ => fun
  | [d1, d2] => { results := [.lit (.bool true)], args := [d1, d2] }
  | _ => none }
def slingSwingsRow : OpenClaim := { program := "ytnnmmojlgikdgaa", sum := "609e5fb3e4ba8183e80c068958953f07b38e67574039c8003b42930c6b6f6807", func := "swashplate/swashplatelaw07.SlingSwings", spec := "slingSwings", unfollowed := true, recurses := true, apart := false }
def SlingSwingsSaid : Prop := slingSwingsRow.holds Try.pinned (OpenSpec.ofChange slingSwingsSpec)

/-- ITS FALSE NEIGHBOUR: 'it returns false'. Refute it at one input. -/
def slingSwingsWrong : ChangeSpec := { name := "slingSwings", fn := fun _ => fun
  | [d1, d2] => { results := [.lit (.bool false)], args := [d1, d2] }
  | _ => none }
def SlingSwingsWrongFalsely : Prop := slingSwingsRow.holds Try.pinned (OpenSpec.ofChange slingSwingsWrong)

/-- 'swashplatelaw07.SlingReaches': WHATEVER THE INPUT: true; the input reads as it did. -/
def slingReachesSpec : ChangeSpec := { name := "slingReaches", fn := fun _ => fun
  | [d1, d2] => { results := [.lit (.bool true)], args := [d1, d2] }
  | _ => none }
def slingReachesRow : OpenClaim := { program := "ytnnmmojlgikdgaa", sum := "609e5fb3e4ba8183e80c068958953f07b38e67574039c8003b42930c6b6f6807", func := "swashplate/swashplatelaw07.SlingReaches", spec := "slingReaches", unfollowed := true, recurses := true, apart := false }
def SlingReachesSaid : Prop := slingReachesRow.holds Try.pinned (OpenSpec.ofChange slingReachesSpec)

/-- ITS FALSE NEIGHBOUR: 'it returns false'. Refute it at one input. -/
def slingReachesWrong : ChangeSpec := { name := "slingReaches", fn := fun _ => fun
  | [d1, d2] => { results := [.lit (.bool false)], args := [d1, d2] }
  | _ => none }
def SlingReachesWrongFalsely : Prop := slingReachesRow.holds Try.pinned (OpenSpec.ofChange slingReachesWrong)

/-- 'swashplatelaw07.SlingKeeps': WHATEVER THE INPUT: true; the input reads as it did. -/
def slingKeepsSpec : ChangeSpec := { name := "slingKeeps", fn := fun _ => fun
  | [d1, d2] => { results := [.lit (.bool true)], args := [d1, d2] }
  | _ => none }
def slingKeepsRow : OpenClaim := { program := "ytnnmmojlgikdgaa", sum := "609e5fb3e4ba8183e80c068958953f07b38e67574039c8003b42930c6b6f6807", func := "swashplate/swashplatelaw07.SlingKeeps", spec := "slingKeeps", unfollowed := true, recurses := true, apart := false }
def SlingKeepsSaid : Prop := slingKeepsRow.holds Try.pinned (OpenSpec.ofChange slingKeepsSpec)

/-- ITS FALSE NEIGHBOUR: 'it returns false'. Refute it at one input. -/
def slingKeepsWrong : ChangeSpec := { name := "slingKeeps", fn := fun _ => fun
  | [d1, d2] => { results := [.lit (.bool false)], args := [d1, d2] }
  | _ => none }
def SlingKeepsWrongFalsely : Prop := slingKeepsRow.holds Try.pinned (OpenSpec.ofChange slingKeepsWrong)

/-- 'swashplatelaw07.SlingHoists': WHATEVER THE INPUT: true; the input reads as it did. -/
def slingHoistsSpec : ChangeSpec := { name := "slingHoists", fn := fun _ => fun
  | [d1, d2, d3] => { results := [.lit (.bool true)], args := [d1, d2, d3] }
  | _ => none }
def slingHoistsRow : OpenClaim := { program := "ytnnmmojlgikdgaa", sum := "609e5fb3e4ba8183e80c068958953f07b38e67574039c8003b42930c6b6f6807", func := "swashplate/swashplatelaw07.SlingHoists", spec := "slingHoists", unfollowed := true, recurses := true, apart := false }
def SlingHoistsSaid : Prop := slingHoistsRow.holds Try.pinned (OpenSpec.ofChange slingHoistsSpec)

/-- ITS FALSE NEIGHBOUR: 'it returns false'. Refute it at one input. -/
def slingHoistsWrong : ChangeSpec := { name := "slingHoists", fn := fun _ => fun
  | [d1, d2, d3] => { results := [.lit (.bool false)], args := [d1, d2, d3] }
  | _ => none }
def SlingHoistsWrongFalsely : Prop := slingHoistsRow.holds Try.pinned (OpenSpec.ofChange slingHoistsWrong)

/-- 'swashplatelaw07.SlingCarries': WHATEVER THE INPUT: true; the input reads as it did. -/
def slingCarriesSpec : ChangeSpec := { name := "slingCarries", fn := fun _ => fun
  | [d1, d2, d3] => { results := [.lit (.bool true)], args := [d1, d2, d3] }
  | _ => none }
def slingCarriesRow : OpenClaim := { program := "ytnnmmojlgikdgaa", sum := "609e5fb3e4ba8183e80c068958953f07b38e67574039c8003b42930c6b6f6807", func := "swashplate/swashplatelaw07.SlingCarries", spec := "slingCarries", unfollowed := true, recurses := true, apart := false }
def SlingCarriesSaid : Prop := slingCarriesRow.holds Try.pinned (OpenSpec.ofChange slingCarriesSpec)

/-- ITS FALSE NEIGHBOUR: 'it returns false'. Refute it at one input. -/
def slingCarriesWrong : ChangeSpec := { name := "slingCarries", fn := fun _ => fun
  | [d1, d2, d3] => { results := [.lit (.bool false)], args := [d1, d2, d3] }
  | _ => none }
def SlingCarriesWrongFalsely : Prop := slingCarriesRow.holds Try.pinned (OpenSpec.ofChange slingCarriesWrong)

/-- 'swashplatelaw07.SlingWithin': WHATEVER THE INPUT: true; the input reads as it did. -/
def slingWithinSpec : ChangeSpec := { name := "slingWithin", fn := fun _ => fun
  | [d1, d2, d3] => { results := [.lit (.bool true)], args := [d1, d2, d3] }
  | _ => none }
def slingWithinRow : OpenClaim := { program := "ytnnmmojlgikdgaa", sum := "609e5fb3e4ba8183e80c068958953f07b38e67574039c8003b42930c6b6f6807", func := "swashplate/swashplatelaw07.SlingWithin", spec := "slingWithin", unfollowed := true, recurses := true, apart := false }
def SlingWithinSaid : Prop := slingWithinRow.holds Try.pinned (OpenSpec.ofChange slingWithinSpec)

/-- ITS FALSE NEIGHBOUR: 'it returns false'. Refute it at one input. -/
def slingWithinWrong : ChangeSpec := { name := "slingWithin", fn := fun _ => fun
  | [d1, d2, d3] => { results := [.lit (.bool false)], args := [d1, d2, d3] }
  | _ => none }
def SlingWithinWrongFalsely : Prop := slingWithinRow.holds Try.pinned (OpenSpec.ofChange slingWithinWrong)

/-- 'swashplatelaw07.SlingEnvelope': WHATEVER THE INPUT: true; the input reads as it did. -/
def slingEnvelopeSpec : ChangeSpec := { name := "slingEnvelope", fn := fun _ => fun
  | [d1, d2, d3] => { results := [.lit (.bool true)], args := [d1, d2, d3] }
  | _ => none }
def slingEnvelopeRow : OpenClaim := { program := "ytnnmmojlgikdgaa", sum := "609e5fb3e4ba8183e80c068958953f07b38e67574039c8003b42930c6b6f6807", func := "swashplate/swashplatelaw07.SlingEnvelope", spec := "slingEnvelope", unfollowed := true, recurses := true, apart := false }
def SlingEnvelopeSaid : Prop := slingEnvelopeRow.holds Try.pinned (OpenSpec.ofChange slingEnvelopeSpec)

/-- ITS FALSE NEIGHBOUR: 'it returns false'. Refute it at one input. -/
def slingEnvelopeWrong : ChangeSpec := { name := "slingEnvelope", fn := fun _ => fun
  | [d1, d2, d3] => { results := [.lit (.bool false)], args := [d1, d2, d3] }
  | _ => none }
def SlingEnvelopeWrongFalsely : Prop := slingEnvelopeRow.holds Try.pinned (OpenSpec.ofChange slingEnvelopeWrong)

/-- 'swashplatelaw07.SlingLinear': WHATEVER THE INPUT: true; the input reads as it did. -/
def slingLinearSpec : ChangeSpec := { name := "slingLinear", fn := fun _ => fun
  | [d1, d2, d3] => { results := [.lit (.bool true)], args := [d1, d2, d3] }
  | _ => none }
def slingLinearRow : OpenClaim := { program := "ytnnmmojlgikdgaa", sum := "609e5fb3e4ba8183e80c068958953f07b38e67574039c8003b42930c6b6f6807", func := "swashplate/swashplatelaw07.SlingLinear", spec := "slingLinear", unfollowed := true, recurses := true, apart := false }
def SlingLinearSaid : Prop := slingLinearRow.holds Try.pinned (OpenSpec.ofChange slingLinearSpec)

/-- ITS FALSE NEIGHBOUR: 'it returns false'. Refute it at one input. -/
def slingLinearWrong : ChangeSpec := { name := "slingLinear", fn := fun _ => fun
  | [d1, d2, d3] => { results := [.lit (.bool false)], args := [d1, d2, d3] }
  | _ => none }
def SlingLinearWrongFalsely : Prop := slingLinearRow.holds Try.pinned (OpenSpec.ofChange slingLinearWrong)

/-- 'swashplatelaw07.SlingGust': WHATEVER THE INPUT: true; the input reads as it did. -/
def slingGustSpec : ChangeSpec := { name := "slingGust", fn := fun _ => fun
  | [d1, d2] => { results := [.lit (.bool true)], args := [d1, d2] }
  | _ => none }
def slingGustRow : OpenClaim := { program := "ytnnmmojlgikdgaa", sum := "609e5fb3e4ba8183e80c068958953f07b38e67574039c8003b42930c6b6f6807", func := "swashplate/swashplatelaw07.SlingGust", spec := "slingGust", unfollowed := true, recurses := true, apart := false }
def SlingGustSaid : Prop := slingGustRow.holds Try.pinned (OpenSpec.ofChange slingGustSpec)

/-- ITS FALSE NEIGHBOUR: 'it returns false'. Refute it at one input. -/
def slingGustWrong : ChangeSpec := { name := "slingGust", fn := fun _ => fun
  | [d1, d2] => { results := [.lit (.bool false)], args := [d1, d2] }
  | _ => none }
def SlingGustWrongFalsely : Prop := slingGustRow.holds Try.pinned (OpenSpec.ofChange slingGustWrong)

/-- 'swashplatelaw07.SlingHangs': WHATEVER THE INPUT: true; the input reads as it did. -/
def slingHangsSpec : ChangeSpec := { name := "slingHangs", fn := fun _ => fun
  | [d1, d2, d3] => { results := [.lit (.bool true)], args := [d1, d2, d3] }
  | _ => none }
def slingHangsRow : OpenClaim := { program := "ytnnmmojlgikdgaa", sum := "609e5fb3e4ba8183e80c068958953f07b38e67574039c8003b42930c6b6f6807", func := "swashplate/swashplatelaw07.SlingHangs", spec := "slingHangs", unfollowed := true, recurses := true, apart := false }
def SlingHangsSaid : Prop := slingHangsRow.holds Try.pinned (OpenSpec.ofChange slingHangsSpec)

/-- ITS FALSE NEIGHBOUR: 'it returns false'. Refute it at one input. -/
def slingHangsWrong : ChangeSpec := { name := "slingHangs", fn := fun _ => fun
  | [d1, d2, d3] => { results := [.lit (.bool false)], args := [d1, d2, d3] }
  | _ => none }
def SlingHangsWrongFalsely : Prop := slingHangsRow.holds Try.pinned (OpenSpec.ofChange slingHangsWrong)

/-- 'swashplatelaw07.SlingTouched': WHATEVER THE INPUT: true; the input reads as it did. -/
def slingTouchedSpec : ChangeSpec := { name := "slingTouched", fn := fun _ => fun
  | [d1, d2, d3] => { results := [.lit (.bool true)], args := [d1, d2, d3] }
  | _ => none }
def slingTouchedRow : OpenClaim := { program := "ytnnmmojlgikdgaa", sum := "609e5fb3e4ba8183e80c068958953f07b38e67574039c8003b42930c6b6f6807", func := "swashplate/swashplatelaw07.SlingTouched", spec := "slingTouched", unfollowed := true, recurses := true, apart := false }
def SlingTouchedSaid : Prop := slingTouchedRow.holds Try.pinned (OpenSpec.ofChange slingTouchedSpec)

/-- ITS FALSE NEIGHBOUR: 'it returns false'. Refute it at one input. -/
def slingTouchedWrong : ChangeSpec := { name := "slingTouched", fn := fun _ => fun
  | [d1, d2, d3] => { results := [.lit (.bool false)], args := [d1, d2, d3] }
  | _ => none }
def SlingTouchedWrongFalsely : Prop := slingTouchedRow.holds Try.pinned (OpenSpec.ofChange slingTouchedWrong)

/-- 'swashplatelaw07.SlingDeep': WHATEVER THE INPUT: true; the input reads as it did. -/
def slingDeepSpec : ChangeSpec := { name := "slingDeep", fn := fun _ => fun
  | [d1, d2, d3] => { results := [.lit (.bool true)], args := [d1, d2, d3] }
  | _ => none }
def slingDeepRow : OpenClaim := { program := "ytnnmmojlgikdgaa", sum := "609e5fb3e4ba8183e80c068958953f07b38e67574039c8003b42930c6b6f6807", func := "swashplate/swashplatelaw07.SlingDeep", spec := "slingDeep", unfollowed := true, recurses := true, apart := false }
def SlingDeepSaid : Prop := slingDeepRow.holds Try.pinned (OpenSpec.ofChange slingDeepSpec)

/-- ITS FALSE NEIGHBOUR: 'it returns false'. Refute it at one input. -/
def slingDeepWrong : ChangeSpec := { name := "slingDeep", fn := fun _ => fun
  | [d1, d2, d3] => { results := [.lit (.bool false)], args := [d1, d2, d3] }
  | _ => none }
def SlingDeepWrongFalsely : Prop := slingDeepRow.holds Try.pinned (OpenSpec.ofChange slingDeepWrong)

/- THE SECOND FORM. 'bulk': how many values and letters a reading holds, each counted each time it is reached (what is shared counts as often as it is met; a slice's spare places count too). A statement '..UptoSaid' is the law's where the arguments, and the package variables that the reading takes, are together of bulk at most 1048576: NARROWER than '..Said'. Prove '..Said' where nothing that the law and all that it calls make is longer than what came in: it says more and counts as full. Else prove '..UptoSaid'. A law counts once. -/
mutual
def uptoBulk {H : Type} : DataW H → Nat
  | .lit (.string bytes) => bytes.length + 1
  | .lit _ => 1
  | .nil => 1
  | .ptr d => uptoBulk d + 1
  | .slice elems spare => uptoBulkAll elems + uptoBulkAll spare + 1
  | .agg parts => uptoBulkAll parts + 1
  | .iface _ d => uptoBulk d + 1
  | .map entries => uptoBulkEntries entries + 1
  | .held _ => 1
def uptoBulkAll {H : Type} : List (DataW H) → Nat
  | [] => 0
  | d :: r => uptoBulk d + uptoBulkAll r
def uptoBulkEntries {H : Type} : List (Lit × DataW H) → Nat
  | [] => 0
  | x :: r => uptoBulkEntry x + uptoBulkEntries r
def uptoBulkEntry {H : Type} : Lit × DataW H → Nat
  | (.string bytes, d) => bytes.length + uptoBulk d + 1
  | (_, d) => uptoBulk d + 1
 end
def uptoSmall : (H : Type) → List (DataW H) → Bool := fun _ ds => decide (uptoBulkAll ds ≤ 1048576)
def OpenSpec.upto (s : _root_.Go.ChangeSpec) : _root_.Go.OpenSpec := { _root_.Go.OpenSpec.ofChange s with cond := some uptoSmall }

/-- 'swashplatelaw07.SlingSwings', WHERE WHAT IT READS IS OF BULK AT MOST 1048576: true; the input reads as it did. -/
def slingSwingsUptoRow : OpenClaim := { program := "ytnnmmojlgikdgaa", sum := "609e5fb3e4ba8183e80c068958953f07b38e67574039c8003b42930c6b6f6807", func := "swashplate/swashplatelaw07.SlingSwings", spec := "slingSwings", unfollowed := true, recurses := true, apart := false, narrowed := true }
def SlingSwingsUptoSaid : Prop := slingSwingsUptoRow.holds Try.pinned (OpenSpec.upto slingSwingsSpec)

/-- 'swashplatelaw07.SlingReaches', WHERE WHAT IT READS IS OF BULK AT MOST 1048576: true; the input reads as it did. -/
def slingReachesUptoRow : OpenClaim := { program := "ytnnmmojlgikdgaa", sum := "609e5fb3e4ba8183e80c068958953f07b38e67574039c8003b42930c6b6f6807", func := "swashplate/swashplatelaw07.SlingReaches", spec := "slingReaches", unfollowed := true, recurses := true, apart := false, narrowed := true }
def SlingReachesUptoSaid : Prop := slingReachesUptoRow.holds Try.pinned (OpenSpec.upto slingReachesSpec)

/-- 'swashplatelaw07.SlingKeeps', WHERE WHAT IT READS IS OF BULK AT MOST 1048576: true; the input reads as it did. -/
def slingKeepsUptoRow : OpenClaim := { program := "ytnnmmojlgikdgaa", sum := "609e5fb3e4ba8183e80c068958953f07b38e67574039c8003b42930c6b6f6807", func := "swashplate/swashplatelaw07.SlingKeeps", spec := "slingKeeps", unfollowed := true, recurses := true, apart := false, narrowed := true }
def SlingKeepsUptoSaid : Prop := slingKeepsUptoRow.holds Try.pinned (OpenSpec.upto slingKeepsSpec)

/-- 'swashplatelaw07.SlingHoists', WHERE WHAT IT READS IS OF BULK AT MOST 1048576: true; the input reads as it did. -/
def slingHoistsUptoRow : OpenClaim := { program := "ytnnmmojlgikdgaa", sum := "609e5fb3e4ba8183e80c068958953f07b38e67574039c8003b42930c6b6f6807", func := "swashplate/swashplatelaw07.SlingHoists", spec := "slingHoists", unfollowed := true, recurses := true, apart := false, narrowed := true }
def SlingHoistsUptoSaid : Prop := slingHoistsUptoRow.holds Try.pinned (OpenSpec.upto slingHoistsSpec)

/-- 'swashplatelaw07.SlingCarries', WHERE WHAT IT READS IS OF BULK AT MOST 1048576: true; the input reads as it did. -/
def slingCarriesUptoRow : OpenClaim := { program := "ytnnmmojlgikdgaa", sum := "609e5fb3e4ba8183e80c068958953f07b38e67574039c8003b42930c6b6f6807", func := "swashplate/swashplatelaw07.SlingCarries", spec := "slingCarries", unfollowed := true, recurses := true, apart := false, narrowed := true }
def SlingCarriesUptoSaid : Prop := slingCarriesUptoRow.holds Try.pinned (OpenSpec.upto slingCarriesSpec)

/-- 'swashplatelaw07.SlingWithin', WHERE WHAT IT READS IS OF BULK AT MOST 1048576: true; the input reads as it did. -/
def slingWithinUptoRow : OpenClaim := { program := "ytnnmmojlgikdgaa", sum := "609e5fb3e4ba8183e80c068958953f07b38e67574039c8003b42930c6b6f6807", func := "swashplate/swashplatelaw07.SlingWithin", spec := "slingWithin", unfollowed := true, recurses := true, apart := false, narrowed := true }
def SlingWithinUptoSaid : Prop := slingWithinUptoRow.holds Try.pinned (OpenSpec.upto slingWithinSpec)

/-- 'swashplatelaw07.SlingEnvelope', WHERE WHAT IT READS IS OF BULK AT MOST 1048576: true; the input reads as it did. -/
def slingEnvelopeUptoRow : OpenClaim := { program := "ytnnmmojlgikdgaa", sum := "609e5fb3e4ba8183e80c068958953f07b38e67574039c8003b42930c6b6f6807", func := "swashplate/swashplatelaw07.SlingEnvelope", spec := "slingEnvelope", unfollowed := true, recurses := true, apart := false, narrowed := true }
def SlingEnvelopeUptoSaid : Prop := slingEnvelopeUptoRow.holds Try.pinned (OpenSpec.upto slingEnvelopeSpec)

/-- 'swashplatelaw07.SlingLinear', WHERE WHAT IT READS IS OF BULK AT MOST 1048576: true; the input reads as it did. -/
def slingLinearUptoRow : OpenClaim := { program := "ytnnmmojlgikdgaa", sum := "609e5fb3e4ba8183e80c068958953f07b38e67574039c8003b42930c6b6f6807", func := "swashplate/swashplatelaw07.SlingLinear", spec := "slingLinear", unfollowed := true, recurses := true, apart := false, narrowed := true }
def SlingLinearUptoSaid : Prop := slingLinearUptoRow.holds Try.pinned (OpenSpec.upto slingLinearSpec)

/-- 'swashplatelaw07.SlingGust', WHERE WHAT IT READS IS OF BULK AT MOST 1048576: true; the input reads as it did. -/
def slingGustUptoRow : OpenClaim := { program := "ytnnmmojlgikdgaa", sum := "609e5fb3e4ba8183e80c068958953f07b38e67574039c8003b42930c6b6f6807", func := "swashplate/swashplatelaw07.SlingGust", spec := "slingGust", unfollowed := true, recurses := true, apart := false, narrowed := true }
def SlingGustUptoSaid : Prop := slingGustUptoRow.holds Try.pinned (OpenSpec.upto slingGustSpec)

/-- 'swashplatelaw07.SlingHangs', WHERE WHAT IT READS IS OF BULK AT MOST 1048576: true; the input reads as it did. -/
def slingHangsUptoRow : OpenClaim := { program := "ytnnmmojlgikdgaa", sum := "609e5fb3e4ba8183e80c068958953f07b38e67574039c8003b42930c6b6f6807", func := "swashplate/swashplatelaw07.SlingHangs", spec := "slingHangs", unfollowed := true, recurses := true, apart := false, narrowed := true }
def SlingHangsUptoSaid : Prop := slingHangsUptoRow.holds Try.pinned (OpenSpec.upto slingHangsSpec)

/-- 'swashplatelaw07.SlingTouched', WHERE WHAT IT READS IS OF BULK AT MOST 1048576: true; the input reads as it did. -/
def slingTouchedUptoRow : OpenClaim := { program := "ytnnmmojlgikdgaa", sum := "609e5fb3e4ba8183e80c068958953f07b38e67574039c8003b42930c6b6f6807", func := "swashplate/swashplatelaw07.SlingTouched", spec := "slingTouched", unfollowed := true, recurses := true, apart := false, narrowed := true }
def SlingTouchedUptoSaid : Prop := slingTouchedUptoRow.holds Try.pinned (OpenSpec.upto slingTouchedSpec)

/-- 'swashplatelaw07.SlingDeep', WHERE WHAT IT READS IS OF BULK AT MOST 1048576: true; the input reads as it did. -/
def slingDeepUptoRow : OpenClaim := { program := "ytnnmmojlgikdgaa", sum := "609e5fb3e4ba8183e80c068958953f07b38e67574039c8003b42930c6b6f6807", func := "swashplate/swashplatelaw07.SlingDeep", spec := "slingDeep", unfollowed := true, recurses := true, apart := false, narrowed := true }
def SlingDeepUptoSaid : Prop := slingDeepUptoRow.holds Try.pinned (OpenSpec.upto slingDeepSpec)

end Rows
end Go.Proofs.Ytnnmmojlgikdgaa

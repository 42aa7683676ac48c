/-
  No cell of these rows narrows 'for every input' (looked for: loops, veiled, ifaces, maps, wideKeys, modest, calm, conditions, laid).
  DERIVED. THE GIVEN ROWS OF THIS SEAT. 14 by the template 'for every input the law returns true; each argument reads behind the call as it read before'; 0 by the template 'total and deterministic' (their statements: YtddomanabcmnpaaTotals.lean).
  GIVEN WITH THE SEED: the statements are not yours to turn. If you find one false, say at which input.
  Laid BY PROGRAM, IN A SANDBOX (cutbox-rows.mjs): the forced cells as the released guide's own fill.sh prints them over the translation 862d6d088e587c4f… (all of the seat's roots in one cut). By AI agents, Wed Nov 11 2026. No macro, syntax, notation, axiom, sorry.
-/
import Derived.Test.YtddomanabcmnpaaChecked
import GoSem.Claim
import GoSem.ClaimJoined
import GoSem.ClaimMapViews
import Derived.JoinedTies
import Derived.KernelRfl
namespace Go.Proofs.Ytddomanabcmnpaa
/- THE CELL 'sum', in the pinned program and in every row, IS THE sha256 OF THE DUMP (.gsa) THAT YtddomanabcmnpaaProg.lean LOADS. Nothing in Lean hashes anything: it is a label: what it is worth is what the hold of that sum in a sandbox is worth. -/
noncomputable def Try.pinned : Pinned := { name := "ytddomanabcmnpaa", sum := "862d6d088e587c4f5a9e7c447f50447cbf754462abfc3ad42612c719a2dc4f10", checked := Try.checked }
namespace Rows
def none {H : Type} : Left H := { results := [], args := [] }

/-- 'laws.FnWhole': WHATEVER THE INPUT: true; the input reads as it did. -/
def fnWholeSpec : ChangeSpec := { name := "fnWhole", fn := fun _ => fun
  | [d1, d2] => { results := [.lit (.bool true)], args := [d1, d2] }
  | _ => none }
def fnWholeRow : OpenClaim := { program := "ytddomanabcmnpaa", sum := "862d6d088e587c4f5a9e7c447f50447cbf754462abfc3ad42612c719a2dc4f10", func := "loop.example/opentables/laws.FnWhole", spec := "fnWhole", unfollowed := true, recurses := true, apart := false }
def FnWholeSaid : Prop := fnWholeRow.holds Try.pinned (OpenSpec.ofChange fnWholeSpec)

/-- ITS FALSE NEIGHBOUR: 'it returns false'. Refute it at one input. -/
def fnWholeWrong : ChangeSpec := { name := "fnWhole", fn := fun _ => fun
  | [d1, d2] => { results := [.lit (.bool false)], args := [d1, d2] }
  | _ => none }
def FnWholeWrongFalsely : Prop := fnWholeRow.holds Try.pinned (OpenSpec.ofChange fnWholeWrong)

/-- 'laws.FnRising': WHATEVER THE INPUT: true; the input reads as it did. -/
def fnRisingSpec : ChangeSpec := { name := "fnRising", fn := fun _ => fun
  | [d] => { results := [.lit (.bool true)], args := [d] }
  | _ => none }
def fnRisingRow : OpenClaim := { program := "ytddomanabcmnpaa", sum := "862d6d088e587c4f5a9e7c447f50447cbf754462abfc3ad42612c719a2dc4f10", func := "loop.example/opentables/laws.FnRising", spec := "fnRising", unfollowed := true, recurses := true, apart := false }
def FnRisingSaid : Prop := fnRisingRow.holds Try.pinned (OpenSpec.ofChange fnRisingSpec)

/-- ITS FALSE NEIGHBOUR: 'it returns false'. Refute it at one input. -/
def fnRisingWrong : ChangeSpec := { name := "fnRising", fn := fun _ => fun
  | [d] => { results := [.lit (.bool false)], args := [d] }
  | _ => none }
def FnRisingWrongFalsely : Prop := fnRisingRow.holds Try.pinned (OpenSpec.ofChange fnRisingWrong)

/-- 'laws.FnSquare': WHATEVER THE INPUT: true; the input reads as it did. -/
def fnSquareSpec : ChangeSpec := { name := "fnSquare", fn := fun _ => fun
  | [d] => { results := [.lit (.bool true)], args := [d] }
  | _ => none }
def fnSquareRow : OpenClaim := { program := "ytddomanabcmnpaa", sum := "862d6d088e587c4f5a9e7c447f50447cbf754462abfc3ad42612c719a2dc4f10", func := "loop.example/opentables/laws.FnSquare", spec := "fnSquare", unfollowed := true, recurses := true, apart := false }
def FnSquareSaid : Prop := fnSquareRow.holds Try.pinned (OpenSpec.ofChange fnSquareSpec)

/-- ITS FALSE NEIGHBOUR: 'it returns false'. Refute it at one input. -/
def fnSquareWrong : ChangeSpec := { name := "fnSquare", fn := fun _ => fun
  | [d] => { results := [.lit (.bool false)], args := [d] }
  | _ => none }
def FnSquareWrongFalsely : Prop := fnSquareRow.holds Try.pinned (OpenSpec.ofChange fnSquareWrong)

/-- 'laws.FnWay': WHATEVER THE INPUT: true; the input reads as it did. -/
def fnWaySpec : ChangeSpec := { name := "fnWay", fn := fun _ => fun
  | [d] => { results := [.lit (.bool true)], args := [d] }
  | _ => none }
def fnWayRow : OpenClaim := { program := "ytddomanabcmnpaa", sum := "862d6d088e587c4f5a9e7c447f50447cbf754462abfc3ad42612c719a2dc4f10", func := "loop.example/opentables/laws.FnWay", spec := "fnWay", unfollowed := true, recurses := true, apart := false }
def FnWaySaid : Prop := fnWayRow.holds Try.pinned (OpenSpec.ofChange fnWaySpec)

/-- ITS FALSE NEIGHBOUR: 'it returns false'. Refute it at one input. -/
def fnWayWrong : ChangeSpec := { name := "fnWay", fn := fun _ => fun
  | [d] => { results := [.lit (.bool false)], args := [d] }
  | _ => none }
def FnWayWrongFalsely : Prop := fnWayRow.holds Try.pinned (OpenSpec.ofChange fnWayWrong)

/-- 'laws.FnWholeSteps': WHATEVER THE INPUT: true; the input reads as it did. -/
def fnWholeStepsSpec : ChangeSpec := { name := "fnWholeSteps", fn := fun _ => fun
  | [d1, d2] => { results := [.lit (.bool true)], args := [d1, d2] }
  | _ => none }
def fnWholeStepsRow : OpenClaim := { program := "ytddomanabcmnpaa", sum := "862d6d088e587c4f5a9e7c447f50447cbf754462abfc3ad42612c719a2dc4f10", func := "loop.example/opentables/laws.FnWholeSteps", spec := "fnWholeSteps", unfollowed := true, recurses := true, apart := false }
def FnWholeStepsSaid : Prop := fnWholeStepsRow.holds Try.pinned (OpenSpec.ofChange fnWholeStepsSpec)

/-- ITS FALSE NEIGHBOUR: 'it returns false'. Refute it at one input. -/
def fnWholeStepsWrong : ChangeSpec := { name := "fnWholeSteps", fn := fun _ => fun
  | [d1, d2] => { results := [.lit (.bool false)], args := [d1, d2] }
  | _ => none }
def FnWholeStepsWrongFalsely : Prop := fnWholeStepsRow.holds Try.pinned (OpenSpec.ofChange fnWholeStepsWrong)

/-- 'laws.FnMeet': WHATEVER THE INPUT: true; the input reads as it did. -/
def fnMeetSpec : ChangeSpec := { name := "fnMeet", fn := fun _ => fun
  | [d] => { results := [.lit (.bool true)], args := [d] }
  | _ => none }
def fnMeetRow : OpenClaim := { program := "ytddomanabcmnpaa", sum := "862d6d088e587c4f5a9e7c447f50447cbf754462abfc3ad42612c719a2dc4f10", func := "loop.example/opentables/laws.FnMeet", spec := "fnMeet", unfollowed := true, recurses := true, apart := false }
def FnMeetSaid : Prop := fnMeetRow.holds Try.pinned (OpenSpec.ofChange fnMeetSpec)

/-- ITS FALSE NEIGHBOUR: 'it returns false'. Refute it at one input. -/
def fnMeetWrong : ChangeSpec := { name := "fnMeet", fn := fun _ => fun
  | [d] => { results := [.lit (.bool false)], args := [d] }
  | _ => none }
def FnMeetWrongFalsely : Prop := fnMeetRow.holds Try.pinned (OpenSpec.ofChange fnMeetWrong)

/-- 'laws.FnWayBack': WHATEVER THE INPUT: true; the input reads as it did. -/
def fnWayBackSpec : ChangeSpec := { name := "fnWayBack", fn := fun _ => fun
  | [d] => { results := [.lit (.bool true)], args := [d] }
  | _ => none }
def fnWayBackRow : OpenClaim := { program := "ytddomanabcmnpaa", sum := "862d6d088e587c4f5a9e7c447f50447cbf754462abfc3ad42612c719a2dc4f10", func := "loop.example/opentables/laws.FnWayBack", spec := "fnWayBack", unfollowed := true, recurses := true, apart := false }
def FnWayBackSaid : Prop := fnWayBackRow.holds Try.pinned (OpenSpec.ofChange fnWayBackSpec)

/-- ITS FALSE NEIGHBOUR: 'it returns false'. Refute it at one input. -/
def fnWayBackWrong : ChangeSpec := { name := "fnWayBack", fn := fun _ => fun
  | [d] => { results := [.lit (.bool false)], args := [d] }
  | _ => none }
def FnWayBackWrongFalsely : Prop := fnWayBackRow.holds Try.pinned (OpenSpec.ofChange fnWayBackWrong)

/-- 'laws.FnRisingSteps': WHATEVER THE INPUT: true; the input reads as it did. -/
def fnRisingStepsSpec : ChangeSpec := { name := "fnRisingSteps", fn := fun _ => fun
  | [d] => { results := [.lit (.bool true)], args := [d] }
  | _ => none }
def fnRisingStepsRow : OpenClaim := { program := "ytddomanabcmnpaa", sum := "862d6d088e587c4f5a9e7c447f50447cbf754462abfc3ad42612c719a2dc4f10", func := "loop.example/opentables/laws.FnRisingSteps", spec := "fnRisingSteps", unfollowed := true, recurses := true, apart := false }
def FnRisingStepsSaid : Prop := fnRisingStepsRow.holds Try.pinned (OpenSpec.ofChange fnRisingStepsSpec)

/-- ITS FALSE NEIGHBOUR: 'it returns false'. Refute it at one input. -/
def fnRisingStepsWrong : ChangeSpec := { name := "fnRisingSteps", fn := fun _ => fun
  | [d] => { results := [.lit (.bool false)], args := [d] }
  | _ => none }
def FnRisingStepsWrongFalsely : Prop := fnRisingStepsRow.holds Try.pinned (OpenSpec.ofChange fnRisingStepsWrong)

/-- 'laws.FnExactWayOf': WHATEVER THE INPUT: true; the input reads as it did. -/
def fnExactWayOfSpec : ChangeSpec := { name := "fnExactWayOf", fn := fun _ => fun
  | [d1, d2, d3, d4] => { results := [.lit (.bool true)], args := [d1, d2, d3, d4] }
  | _ => none }
def fnExactWayOfRow : OpenClaim := { program := "ytddomanabcmnpaa", sum := "862d6d088e587c4f5a9e7c447f50447cbf754462abfc3ad42612c719a2dc4f10", func := "loop.example/opentables/laws.FnExactWayOf", spec := "fnExactWayOf", unfollowed := true, recurses := true, apart := false }
def FnExactWayOfSaid : Prop := fnExactWayOfRow.holds Try.pinned (OpenSpec.ofChange fnExactWayOfSpec)

/-- ITS FALSE NEIGHBOUR: 'it returns false'. Refute it at one input. -/
def fnExactWayOfWrong : ChangeSpec := { name := "fnExactWayOf", fn := fun _ => fun
  | [d1, d2, d3, d4] => { results := [.lit (.bool false)], args := [d1, d2, d3, d4] }
  | _ => none }
def FnExactWayOfWrongFalsely : Prop := fnExactWayOfRow.holds Try.pinned (OpenSpec.ofChange fnExactWayOfWrong)

/-- 'laws.FnExactReachOf': WHATEVER THE INPUT: true; the input reads as it did. -/
def fnExactReachOfSpec : ChangeSpec := { name := "fnExactReachOf", fn := fun _ => fun
  | [d1, d2, d3] => { results := [.lit (.bool true)], args := [d1, d2, d3] }
  | _ => none }
def fnExactReachOfRow : OpenClaim := { program := "ytddomanabcmnpaa", sum := "862d6d088e587c4f5a9e7c447f50447cbf754462abfc3ad42612c719a2dc4f10", func := "loop.example/opentables/laws.FnExactReachOf", spec := "fnExactReachOf", unfollowed := true, recurses := true, apart := false }
def FnExactReachOfSaid : Prop := fnExactReachOfRow.holds Try.pinned (OpenSpec.ofChange fnExactReachOfSpec)

/-- ITS FALSE NEIGHBOUR: 'it returns false'. Refute it at one input. -/
def fnExactReachOfWrong : ChangeSpec := { name := "fnExactReachOf", fn := fun _ => fun
  | [d1, d2, d3] => { results := [.lit (.bool false)], args := [d1, d2, d3] }
  | _ => none }
def FnExactReachOfWrongFalsely : Prop := fnExactReachOfRow.holds Try.pinned (OpenSpec.ofChange fnExactReachOfWrong)

/-- 'laws.FnExactIsWhole': WHATEVER THE INPUT: true; the input reads as it did. -/
def fnExactIsWholeSpec : ChangeSpec := { name := "fnExactIsWhole", fn := fun _ => fun
  | [d1, d2, d3] => { results := [.lit (.bool true)], args := [d1, d2, d3] }
  | _ => none }
def fnExactIsWholeRow : OpenClaim := { program := "ytddomanabcmnpaa", sum := "862d6d088e587c4f5a9e7c447f50447cbf754462abfc3ad42612c719a2dc4f10", func := "loop.example/opentables/laws.FnExactIsWhole", spec := "fnExactIsWhole", unfollowed := true, recurses := true, apart := false }
def FnExactIsWholeSaid : Prop := fnExactIsWholeRow.holds Try.pinned (OpenSpec.ofChange fnExactIsWholeSpec)

/-- ITS FALSE NEIGHBOUR: 'it returns false'. Refute it at one input. -/
def fnExactIsWholeWrong : ChangeSpec := { name := "fnExactIsWhole", fn := fun _ => fun
  | [d1, d2, d3] => { results := [.lit (.bool false)], args := [d1, d2, d3] }
  | _ => none }
def FnExactIsWholeWrongFalsely : Prop := fnExactIsWholeRow.holds Try.pinned (OpenSpec.ofChange fnExactIsWholeWrong)

/-- 'laws.FnExactWholeSteps': WHATEVER THE INPUT: true; the input reads as it did. -/
def fnExactWholeStepsSpec : ChangeSpec := { name := "fnExactWholeSteps", fn := fun _ => fun
  | [d] => { results := [.lit (.bool true)], args := [d] }
  | _ => none }
def fnExactWholeStepsRow : OpenClaim := { program := "ytddomanabcmnpaa", sum := "862d6d088e587c4f5a9e7c447f50447cbf754462abfc3ad42612c719a2dc4f10", func := "loop.example/opentables/laws.FnExactWholeSteps", spec := "fnExactWholeSteps", unfollowed := true, recurses := true, apart := false }
def FnExactWholeStepsSaid : Prop := fnExactWholeStepsRow.holds Try.pinned (OpenSpec.ofChange fnExactWholeStepsSpec)

/-- ITS FALSE NEIGHBOUR: 'it returns false'. Refute it at one input. -/
def fnExactWholeStepsWrong : ChangeSpec := { name := "fnExactWholeSteps", fn := fun _ => fun
  | [d] => { results := [.lit (.bool false)], args := [d] }
  | _ => none }
def FnExactWholeStepsWrongFalsely : Prop := fnExactWholeStepsRow.holds Try.pinned (OpenSpec.ofChange fnExactWholeStepsWrong)

/-- 'laws.FnExactShareOf': WHATEVER THE INPUT: true; the input reads as it did. -/
def fnExactShareOfSpec : ChangeSpec := { name := "fnExactShareOf", fn := fun _ => fun
  | [d1, d2] => { results := [.lit (.bool true)], args := [d1, d2] }
  | _ => none }
def fnExactShareOfRow : OpenClaim := { program := "ytddomanabcmnpaa", sum := "862d6d088e587c4f5a9e7c447f50447cbf754462abfc3ad42612c719a2dc4f10", func := "loop.example/opentables/laws.FnExactShareOf", spec := "fnExactShareOf", apart := false }
def FnExactShareOfSaid : Prop := fnExactShareOfRow.holds Try.pinned (OpenSpec.ofChange fnExactShareOfSpec)

/-- ITS FALSE NEIGHBOUR: 'it returns false'. Refute it at one input. -/
def fnExactShareOfWrong : ChangeSpec := { name := "fnExactShareOf", fn := fun _ => fun
  | [d1, d2] => { results := [.lit (.bool false)], args := [d1, d2] }
  | _ => none }
def FnExactShareOfWrongFalsely : Prop := fnExactShareOfRow.holds Try.pinned (OpenSpec.ofChange fnExactShareOfWrong)

/-- 'laws.FnExactMeetAt': WHATEVER THE INPUT: true; the input reads as it did. -/
def fnExactMeetAtSpec : ChangeSpec := { name := "fnExactMeetAt", fn := fun _ => fun
  | [d1, d2, d3, d4, d5] => { results := [.lit (.bool true)], args := [d1, d2, d3, d4, d5] }
  | _ => none }
def fnExactMeetAtRow : OpenClaim := { program := "ytddomanabcmnpaa", sum := "862d6d088e587c4f5a9e7c447f50447cbf754462abfc3ad42612c719a2dc4f10", func := "loop.example/opentables/laws.FnExactMeetAt", spec := "fnExactMeetAt", unfollowed := true, recurses := true, apart := false }
def FnExactMeetAtSaid : Prop := fnExactMeetAtRow.holds Try.pinned (OpenSpec.ofChange fnExactMeetAtSpec)

/-- ITS FALSE NEIGHBOUR: 'it returns false'. Refute it at one input. -/
def fnExactMeetAtWrong : ChangeSpec := { name := "fnExactMeetAt", fn := fun _ => fun
  | [d1, d2, d3, d4, d5] => { results := [.lit (.bool false)], args := [d1, d2, d3, d4, d5] }
  | _ => none }
def FnExactMeetAtWrongFalsely : Prop := fnExactMeetAtRow.holds Try.pinned (OpenSpec.ofChange fnExactMeetAtWrong)

/- THE SECOND FORM. 'bulk': how many values and letters a reading holds, each counted each time it is reached (what is shared counts as often as it is met; a slice's spare places count too). A statement '..UptoSaid' is the law's where the arguments, and the package variables that the reading takes, are together of bulk at most 1048576: NARROWER than '..Said'. Prove '..Said' where nothing that the law and all that it calls make is longer than what came in: it says more and counts as full. Else prove '..UptoSaid'. A law counts once. -/
mutual
def uptoBulk {H : Type} : DataW H → Nat
  | .lit (.string bytes) => bytes.length + 1
  | .lit _ => 1
  | .nil => 1
  | .ptr d => uptoBulk d + 1
  | .slice elems spare => uptoBulkAll elems + uptoBulkAll spare + 1
  | .agg parts => uptoBulkAll parts + 1
  | .iface _ d => uptoBulk d + 1
  | .map entries => uptoBulkEntries entries + 1
  | .held _ => 1
def uptoBulkAll {H : Type} : List (DataW H) → Nat
  | [] => 0
  | d :: r => uptoBulk d + uptoBulkAll r
def uptoBulkEntries {H : Type} : List (Lit × DataW H) → Nat
  | [] => 0
  | x :: r => uptoBulkEntry x + uptoBulkEntries r
def uptoBulkEntry {H : Type} : Lit × DataW H → Nat
  | (.string bytes, d) => bytes.length + uptoBulk d + 1
  | (_, d) => uptoBulk d + 1
 end
def uptoSmall : (H : Type) → List (DataW H) → Bool := fun _ ds => decide (uptoBulkAll ds ≤ 1048576)
def OpenSpec.upto (s : _root_.Go.ChangeSpec) : _root_.Go.OpenSpec := { _root_.Go.OpenSpec.ofChange s with cond := some uptoSmall }

/-- 'laws.FnWhole', WHERE WHAT IT READS IS OF BULK AT MOST 1048576: true; the input reads as it did. -/
def fnWholeUptoRow : OpenClaim := { program := "ytddomanabcmnpaa", sum := "862d6d088e587c4f5a9e7c447f50447cbf754462abfc3ad42612c719a2dc4f10", func := "loop.example/opentables/laws.FnWhole", spec := "fnWhole", unfollowed := true, recurses := true, apart := false, narrowed := true }
def FnWholeUptoSaid : Prop := fnWholeUptoRow.holds Try.pinned (OpenSpec.upto fnWholeSpec)

/-- 'laws.FnRising', WHERE WHAT IT READS IS OF BULK AT MOST 1048576: true; the input reads as it did. -/
def fnRisingUptoRow : OpenClaim := { program := "ytddomanabcmnpaa", sum := "862d6d088e587c4f5a9e7c447f50447cbf754462abfc3ad42612c719a2dc4f10", func := "loop.example/opentables/laws.FnRising", spec := "fnRising", unfollowed := true, recurses := true, apart := false, narrowed := true }
def FnRisingUptoSaid : Prop := fnRisingUptoRow.holds Try.pinned (OpenSpec.upto fnRisingSpec)

/-- 'laws.FnSquare', WHERE WHAT IT READS IS OF BULK AT MOST 1048576: true; the input reads as it did. -/
def fnSquareUptoRow : OpenClaim := { program := "ytddomanabcmnpaa", sum := "862d6d088e587c4f5a9e7c447f50447cbf754462abfc3ad42612c719a2dc4f10", func := "loop.example/opentables/laws.FnSquare", spec := "fnSquare", unfollowed := true, recurses := true, apart := false, narrowed := true }
def FnSquareUptoSaid : Prop := fnSquareUptoRow.holds Try.pinned (OpenSpec.upto fnSquareSpec)

/-- 'laws.FnWay', WHERE WHAT IT READS IS OF BULK AT MOST 1048576: true; the input reads as it did. -/
def fnWayUptoRow : OpenClaim := { program := "ytddomanabcmnpaa", sum := "862d6d088e587c4f5a9e7c447f50447cbf754462abfc3ad42612c719a2dc4f10", func := "loop.example/opentables/laws.FnWay", spec := "fnWay", unfollowed := true, recurses := true, apart := false, narrowed := true }
def FnWayUptoSaid : Prop := fnWayUptoRow.holds Try.pinned (OpenSpec.upto fnWaySpec)

/-- 'laws.FnWholeSteps', WHERE WHAT IT READS IS OF BULK AT MOST 1048576: true; the input reads as it did. -/
def fnWholeStepsUptoRow : OpenClaim := { program := "ytddomanabcmnpaa", sum := "862d6d088e587c4f5a9e7c447f50447cbf754462abfc3ad42612c719a2dc4f10", func := "loop.example/opentables/laws.FnWholeSteps", spec := "fnWholeSteps", unfollowed := true, recurses := true, apart := false, narrowed := true }
def FnWholeStepsUptoSaid : Prop := fnWholeStepsUptoRow.holds Try.pinned (OpenSpec.upto fnWholeStepsSpec)

/-- 'laws.FnMeet', WHERE WHAT IT READS IS OF BULK AT MOST 1048576: true; the input reads as it did. -/
def fnMeetUptoRow : OpenClaim := { program := "ytddomanabcmnpaa", sum := "862d6d088e587c4f5a9e7c447f50447cbf754462abfc3ad42612c719a2dc4f10", func := "loop.example/opentables/laws.FnMeet", spec := "fnMeet", unfollowed := true, recurses := true, apart := false, narrowed := true }
def FnMeetUptoSaid : Prop := fnMeetUptoRow.holds Try.pinned (OpenSpec.upto fnMeetSpec)

/-- 'laws.FnWayBack', WHERE WHAT IT READS IS OF BULK AT MOST 1048576: true; the input reads as it did. -/
def fnWayBackUptoRow : OpenClaim := { program := "ytddomanabcmnpaa", sum := "862d6d088e587c4f5a9e7c447f50447cbf754462abfc3ad42612c719a2dc4f10", func := "loop.example/opentables/laws.FnWayBack", spec := "fnWayBack", unfollowed := true, recurses := true, apart := false, narrowed := true }
def FnWayBackUptoSaid : Prop := fnWayBackUptoRow.holds Try.pinned (OpenSpec.upto fnWayBackSpec)

/-- 'laws.FnRisingSteps', WHERE WHAT IT READS IS OF BULK AT MOST 1048576: true; the input reads as it did. -/
def fnRisingStepsUptoRow : OpenClaim := { program := "ytddomanabcmnpaa", sum := "862d6d088e587c4f5a9e7c447f50447cbf754462abfc3ad42612c719a2dc4f10", func := "loop.example/opentables/laws.FnRisingSteps", spec := "fnRisingSteps", unfollowed := true, recurses := true, apart := false, narrowed := true }
def FnRisingStepsUptoSaid : Prop := fnRisingStepsUptoRow.holds Try.pinned (OpenSpec.upto fnRisingStepsSpec)

/-- 'laws.FnExactWayOf', WHERE WHAT IT READS IS OF BULK AT MOST 1048576: true; the input reads as it did. -/
def fnExactWayOfUptoRow : OpenClaim := { program := "ytddomanabcmnpaa", sum := "862d6d088e587c4f5a9e7c447f50447cbf754462abfc3ad42612c719a2dc4f10", func := "loop.example/opentables/laws.FnExactWayOf", spec := "fnExactWayOf", unfollowed := true, recurses := true, apart := false, narrowed := true }
def FnExactWayOfUptoSaid : Prop := fnExactWayOfUptoRow.holds Try.pinned (OpenSpec.upto fnExactWayOfSpec)

/-- 'laws.FnExactReachOf', WHERE WHAT IT READS IS OF BULK AT MOST 1048576: true; the input reads as it did. -/
def fnExactReachOfUptoRow : OpenClaim := { program := "ytddomanabcmnpaa", sum := "862d6d088e587c4f5a9e7c447f50447cbf754462abfc3ad42612c719a2dc4f10", func := "loop.example/opentables/laws.FnExactReachOf", spec := "fnExactReachOf", unfollowed := true, recurses := true, apart := false, narrowed := true }
def FnExactReachOfUptoSaid : Prop := fnExactReachOfUptoRow.holds Try.pinned (OpenSpec.upto fnExactReachOfSpec)

/-- 'laws.FnExactIsWhole', WHERE WHAT IT READS IS OF BULK AT MOST 1048576: true; the input reads as it did. -/
def fnExactIsWholeUptoRow : OpenClaim := { program := "ytddomanabcmnpaa", sum := "862d6d088e587c4f5a9e7c447f50447cbf754462abfc3ad42612c719a2dc4f10", func := "loop.example/opentables/laws.FnExactIsWhole", spec := "fnExactIsWhole", unfollowed := true, recurses := true, apart := false, narrowed := true }
def FnExactIsWholeUptoSaid : Prop := fnExactIsWholeUptoRow.holds Try.pinned (OpenSpec.upto fnExactIsWholeSpec)

/-- 'laws.FnExactWholeSteps', WHERE WHAT IT READS IS OF BULK AT MOST 1048576: true; the input reads as it did. -/
def fnExactWholeStepsUptoRow : OpenClaim := { program := "ytddomanabcmnpaa", sum := "862d6d088e587c4f5a9e7c447f50447cbf754462abfc3ad42612c719a2dc4f10", func := "loop.example/opentables/laws.FnExactWholeSteps", spec := "fnExactWholeSteps", unfollowed := true, recurses := true, apart := false, narrowed := true }
def FnExactWholeStepsUptoSaid : Prop := fnExactWholeStepsUptoRow.holds Try.pinned (OpenSpec.upto fnExactWholeStepsSpec)

/-- 'laws.FnExactShareOf', WHERE WHAT IT READS IS OF BULK AT MOST 1048576: true; the input reads as it did. -/
def fnExactShareOfUptoRow : OpenClaim := { program := "ytddomanabcmnpaa", sum := "862d6d088e587c4f5a9e7c447f50447cbf754462abfc3ad42612c719a2dc4f10", func := "loop.example/opentables/laws.FnExactShareOf", spec := "fnExactShareOf", apart := false, narrowed := true }
def FnExactShareOfUptoSaid : Prop := fnExactShareOfUptoRow.holds Try.pinned (OpenSpec.upto fnExactShareOfSpec)

/-- 'laws.FnExactMeetAt', WHERE WHAT IT READS IS OF BULK AT MOST 1048576: true; the input reads as it did. -/
def fnExactMeetAtUptoRow : OpenClaim := { program := "ytddomanabcmnpaa", sum := "862d6d088e587c4f5a9e7c447f50447cbf754462abfc3ad42612c719a2dc4f10", func := "loop.example/opentables/laws.FnExactMeetAt", spec := "fnExactMeetAt", unfollowed := true, recurses := true, apart := false, narrowed := true }
def FnExactMeetAtUptoSaid : Prop := fnExactMeetAtUptoRow.holds Try.pinned (OpenSpec.upto fnExactMeetAtSpec)

end Rows
end Go.Proofs.Ytddomanabcmnpaa

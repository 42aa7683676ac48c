/-
  NARROWER THAN 'FOR EVERY INPUT', by the rows' own cells (each row's printed sentence says how): FnFairVisits: laid · FnExactMakeOrder: laid · FnExactIsMade: laid · FnDropShift: laid · FnShiftAll: laid · FnAtHome: laid · FnFairTurned: laid · FnShiftTurned: laid.
  DERIVED. THE GIVEN ROWS OF THIS SEAT. 8 by the template 'for every input the law returns true; each argument reads behind the call as it read before'; 0 by the template 'total and deterministic' (their statements: YtalehninmdcoeaaGreatDoorTotals.lean).
  GIVEN WITH THE SEED: the statements are not yours to turn. If you find one false, say at which input.
  Laid BY PROGRAM, IN A SANDBOX (cutbox-rows.mjs): the forced cells as the released guide's own fill.sh prints them over the translation 3f8de9919348c847… (all of the seat's roots in one cut). By AI agents, Wed Nov 11 2026. No macro, syntax, notation, axiom, sorry.
-/
import Derived.Test.YtalehninmdcoeaaGreatDoorChecked
import GoSem.Claim
import GoSem.ClaimJoined
import GoSem.ClaimMapViews
import Derived.JoinedTies
import Derived.KernelRfl
namespace Go.Proofs.YtalehninmdcoeaaGreatDoor
/- THE CELL 'sum', in the pinned program and in every row, IS THE sha256 OF THE DUMP (.gsa) THAT YtalehninmdcoeaaGreatDoorProg.lean LOADS. Nothing in Lean hashes anything: it is a label: what it is worth is what the hold of that sum in a sandbox is worth. -/
noncomputable def Tryz.pinned : Pinned := { name := "ytalehninmdcoeaagreatdoor", sum := "3f8de9919348c847d8f4f1d370e1309bcab965314b85b86c34587fca30f3b343", checked := Tryz.checked }
namespace Rows
def none {H : Type} : Left H := { results := [], args := [] }

/- WHAT THE LISTED PACKAGE-LEVEL VARIABLES READ AS WHEN THE CALL BEGINS. Each datum BY PROGRAM (the guide's laid-datum.mjs) off the statement by which the dump's own 'gosem.cut.vars' lays the variable. In a bare row this is a premise. The card (YtalehninmdcoeaaGreatDoorCards.lean) ties it to the program's text. -/
def laid_errors_errorType {H : Type} : DataW H := .iface "internal/reflectlite.rtype" (.agg [.ptr (.lit (.string [101, 114, 114, 111, 114]))])

/-- 'laws.FnFairVisits': WHATEVER THE INPUT: true; the input reads as it did. -/
def fnFairVisitsSpec : ChangeSpec := { name := "fnFairVisits", fn := fun _ => fun
  | [d] => { results := [.lit (.bool true)], args := [d] }
  | _ => none }
def fnFairVisitsRow : OpenClaim := { program := "ytalehninmdcoeaagreatdoor", sum := "3f8de9919348c847d8f4f1d370e1309bcab965314b85b86c34587fca30f3b343", func := "loop.example/opentables/laws.FnFairVisits", spec := "fnFairVisits", inPlace := ["internal/reflectlite.TypeOf", "internal/reflectlite.ValueOf", "(internal/reflectlite.Value).Type", "(internal/reflectlite.Value).IsNil", "(internal/reflectlite.Value).Elem", "(internal/reflectlite.Value).Set"], unfollowed := true, recurses := true, named := ["errors.errorType"], apart := false, laid := [("errors.errorType", laid_errors_errorType)] }
def FnFairVisitsSaid : Prop := fnFairVisitsRow.holds Tryz.pinned (OpenSpec.ofChange fnFairVisitsSpec)

/-- ITS FALSE NEIGHBOUR: 'it returns false'. Refute it at one input. -/
def fnFairVisitsWrong : ChangeSpec := { name := "fnFairVisits", fn := fun _ => fun
  | [d] => { results := [.lit (.bool false)], args := [d] }
  | _ => none }
def FnFairVisitsWrongFalsely : Prop := fnFairVisitsRow.holds Tryz.pinned (OpenSpec.ofChange fnFairVisitsWrong)

/-- 'laws.FnExactMakeOrder': WHATEVER THE INPUT: true; the input reads as it did. -/
def fnExactMakeOrderSpec : ChangeSpec := { name := "fnExactMakeOrder", fn := fun _ => fun
  | [d] => { results := [.lit (.bool true)], args := [d] }
  | _ => none }
def fnExactMakeOrderRow : OpenClaim := { program := "ytalehninmdcoeaagreatdoor", sum := "3f8de9919348c847d8f4f1d370e1309bcab965314b85b86c34587fca30f3b343", func := "loop.example/opentables/laws.FnExactMakeOrder", spec := "fnExactMakeOrder", inPlace := ["internal/reflectlite.TypeOf", "internal/reflectlite.ValueOf", "(internal/reflectlite.Value).Type", "(internal/reflectlite.Value).IsNil", "(internal/reflectlite.Value).Elem", "(internal/reflectlite.Value).Set"], unfollowed := true, recurses := true, named := ["errors.errorType"], apart := false, laid := [("errors.errorType", laid_errors_errorType)] }
def FnExactMakeOrderSaid : Prop := fnExactMakeOrderRow.holds Tryz.pinned (OpenSpec.ofChange fnExactMakeOrderSpec)

/-- ITS FALSE NEIGHBOUR: 'it returns false'. Refute it at one input. -/
def fnExactMakeOrderWrong : ChangeSpec := { name := "fnExactMakeOrder", fn := fun _ => fun
  | [d] => { results := [.lit (.bool false)], args := [d] }
  | _ => none }
def FnExactMakeOrderWrongFalsely : Prop := fnExactMakeOrderRow.holds Tryz.pinned (OpenSpec.ofChange fnExactMakeOrderWrong)

/-- 'laws.FnExactIsMade': WHATEVER THE INPUT: true; the input reads as it did. -/
def fnExactIsMadeSpec : ChangeSpec := { name := "fnExactIsMade", fn := fun _ => fun
  | [d] => { results := [.lit (.bool true)], args := [d] }
  | _ => none }
def fnExactIsMadeRow : OpenClaim := { program := "ytalehninmdcoeaagreatdoor", sum := "3f8de9919348c847d8f4f1d370e1309bcab965314b85b86c34587fca30f3b343", func := "loop.example/opentables/laws.FnExactIsMade", spec := "fnExactIsMade", inPlace := ["internal/reflectlite.TypeOf", "internal/reflectlite.ValueOf", "(internal/reflectlite.Value).Type", "(internal/reflectlite.Value).IsNil", "(internal/reflectlite.Value).Elem", "(internal/reflectlite.Value).Set"], unfollowed := true, recurses := true, named := ["errors.errorType"], apart := false, laid := [("errors.errorType", laid_errors_errorType)] }
def FnExactIsMadeSaid : Prop := fnExactIsMadeRow.holds Tryz.pinned (OpenSpec.ofChange fnExactIsMadeSpec)

/-- ITS FALSE NEIGHBOUR: 'it returns false'. Refute it at one input. -/
def fnExactIsMadeWrong : ChangeSpec := { name := "fnExactIsMade", fn := fun _ => fun
  | [d] => { results := [.lit (.bool false)], args := [d] }
  | _ => none }
def FnExactIsMadeWrongFalsely : Prop := fnExactIsMadeRow.holds Tryz.pinned (OpenSpec.ofChange fnExactIsMadeWrong)

/-- 'laws.FnDropShift': WHATEVER THE INPUT: true; the input reads as it did. -/
def fnDropShiftSpec : ChangeSpec := { name := "fnDropShift", fn := fun _ => fun
  | [d] => { results := [.lit (.bool true)], args := [d] }
  | _ => none }
def fnDropShiftRow : OpenClaim := { program := "ytalehninmdcoeaagreatdoor", sum := "3f8de9919348c847d8f4f1d370e1309bcab965314b85b86c34587fca30f3b343", func := "loop.example/opentables/laws.FnDropShift", spec := "fnDropShift", inPlace := ["internal/reflectlite.ValueOf", "(internal/reflectlite.Value).Type", "(internal/reflectlite.Value).IsNil", "internal/reflectlite.TypeOf", "(internal/reflectlite.Value).Elem", "(internal/reflectlite.Value).Set"], unfollowed := true, recurses := true, named := ["errors.errorType"], apart := false, laid := [("errors.errorType", laid_errors_errorType)] }
def FnDropShiftSaid : Prop := fnDropShiftRow.holds Tryz.pinned (OpenSpec.ofChange fnDropShiftSpec)

/-- ITS FALSE NEIGHBOUR: 'it returns false'. Refute it at one input. -/
def fnDropShiftWrong : ChangeSpec := { name := "fnDropShift", fn := fun _ => fun
  | [d] => { results := [.lit (.bool false)], args := [d] }
  | _ => none }
def FnDropShiftWrongFalsely : Prop := fnDropShiftRow.holds Tryz.pinned (OpenSpec.ofChange fnDropShiftWrong)

/-- 'laws.FnShiftAll': WHATEVER THE INPUT: true; the input reads as it did. -/
def fnShiftAllSpec : ChangeSpec := { name := "fnShiftAll", fn := fun _ => fun
  | [d] => { results := [.lit (.bool true)], args := [d] }
  | _ => none }
def fnShiftAllRow : OpenClaim := { program := "ytalehninmdcoeaagreatdoor", sum := "3f8de9919348c847d8f4f1d370e1309bcab965314b85b86c34587fca30f3b343", func := "loop.example/opentables/laws.FnShiftAll", spec := "fnShiftAll", inPlace := ["internal/reflectlite.TypeOf", "internal/reflectlite.ValueOf", "(internal/reflectlite.Value).Type", "(internal/reflectlite.Value).IsNil", "(internal/reflectlite.Value).Elem", "(internal/reflectlite.Value).Set"], unfollowed := true, recurses := true, named := ["errors.errorType"], apart := false, laid := [("errors.errorType", laid_errors_errorType)] }
def FnShiftAllSaid : Prop := fnShiftAllRow.holds Tryz.pinned (OpenSpec.ofChange fnShiftAllSpec)

/-- ITS FALSE NEIGHBOUR: 'it returns false'. Refute it at one input. -/
def fnShiftAllWrong : ChangeSpec := { name := "fnShiftAll", fn := fun _ => fun
  | [d] => { results := [.lit (.bool false)], args := [d] }
  | _ => none }
def FnShiftAllWrongFalsely : Prop := fnShiftAllRow.holds Tryz.pinned (OpenSpec.ofChange fnShiftAllWrong)

/-- 'laws.FnAtHome': WHATEVER THE INPUT: true; the input reads as it did. -/
def fnAtHomeSpec : ChangeSpec := { name := "fnAtHome", fn := fun _ => fun
  | [d] => { results := [.lit (.bool true)], args := [d] }
  | _ => none }
def fnAtHomeRow : OpenClaim := { program := "ytalehninmdcoeaagreatdoor", sum := "3f8de9919348c847d8f4f1d370e1309bcab965314b85b86c34587fca30f3b343", func := "loop.example/opentables/laws.FnAtHome", spec := "fnAtHome", inPlace := ["internal/reflectlite.TypeOf", "internal/reflectlite.ValueOf", "(internal/reflectlite.Value).Type", "(internal/reflectlite.Value).IsNil", "(internal/reflectlite.Value).Elem", "(internal/reflectlite.Value).Set"], unfollowed := true, recurses := true, named := ["errors.errorType"], apart := false, laid := [("errors.errorType", laid_errors_errorType)] }
def FnAtHomeSaid : Prop := fnAtHomeRow.holds Tryz.pinned (OpenSpec.ofChange fnAtHomeSpec)

/-- ITS FALSE NEIGHBOUR: 'it returns false'. Refute it at one input. -/
def fnAtHomeWrong : ChangeSpec := { name := "fnAtHome", fn := fun _ => fun
  | [d] => { results := [.lit (.bool false)], args := [d] }
  | _ => none }
def FnAtHomeWrongFalsely : Prop := fnAtHomeRow.holds Tryz.pinned (OpenSpec.ofChange fnAtHomeWrong)

/-- 'laws.FnFairTurned': WHATEVER THE INPUT: true; the input reads as it did. -/
def fnFairTurnedSpec : ChangeSpec := { name := "fnFairTurned", fn := fun _ => fun
  | [d] => { results := [.lit (.bool true)], args := [d] }
  | _ => none }
def fnFairTurnedRow : OpenClaim := { program := "ytalehninmdcoeaagreatdoor", sum := "3f8de9919348c847d8f4f1d370e1309bcab965314b85b86c34587fca30f3b343", func := "loop.example/opentables/laws.FnFairTurned", spec := "fnFairTurned", inPlace := ["internal/reflectlite.TypeOf", "internal/reflectlite.ValueOf", "(internal/reflectlite.Value).Type", "(internal/reflectlite.Value).IsNil", "(internal/reflectlite.Value).Elem", "(internal/reflectlite.Value).Set"], unfollowed := true, recurses := true, named := ["errors.errorType"], apart := false, laid := [("errors.errorType", laid_errors_errorType)] }
def FnFairTurnedSaid : Prop := fnFairTurnedRow.holds Tryz.pinned (OpenSpec.ofChange fnFairTurnedSpec)

/-- ITS FALSE NEIGHBOUR: 'it returns false'. Refute it at one input. -/
def fnFairTurnedWrong : ChangeSpec := { name := "fnFairTurned", fn := fun _ => fun
  | [d] => { results := [.lit (.bool false)], args := [d] }
  | _ => none }
def FnFairTurnedWrongFalsely : Prop := fnFairTurnedRow.holds Tryz.pinned (OpenSpec.ofChange fnFairTurnedWrong)

/-- 'laws.FnShiftTurned': WHATEVER THE INPUT: true; the input reads as it did. -/
def fnShiftTurnedSpec : ChangeSpec := { name := "fnShiftTurned", fn := fun _ => fun
  | [d] => { results := [.lit (.bool true)], args := [d] }
  | _ => none }
def fnShiftTurnedRow : OpenClaim := { program := "ytalehninmdcoeaagreatdoor", sum := "3f8de9919348c847d8f4f1d370e1309bcab965314b85b86c34587fca30f3b343", func := "loop.example/opentables/laws.FnShiftTurned", spec := "fnShiftTurned", inPlace := ["internal/reflectlite.ValueOf", "(internal/reflectlite.Value).Type", "(internal/reflectlite.Value).IsNil", "internal/reflectlite.TypeOf", "(internal/reflectlite.Value).Elem", "(internal/reflectlite.Value).Set"], unfollowed := true, recurses := true, named := ["errors.errorType"], apart := false, laid := [("errors.errorType", laid_errors_errorType)] }
def FnShiftTurnedSaid : Prop := fnShiftTurnedRow.holds Tryz.pinned (OpenSpec.ofChange fnShiftTurnedSpec)

/-- ITS FALSE NEIGHBOUR: 'it returns false'. Refute it at one input. -/
def fnShiftTurnedWrong : ChangeSpec := { name := "fnShiftTurned", fn := fun _ => fun
  | [d] => { results := [.lit (.bool false)], args := [d] }
  | _ => none }
def FnShiftTurnedWrongFalsely : Prop := fnShiftTurnedRow.holds Tryz.pinned (OpenSpec.ofChange fnShiftTurnedWrong)

/- THE SECOND FORM. 'bulk': how many values and letters a reading holds, each counted each time it is reached (what is shared counts as often as it is met; a slice's spare places count too). A statement '..UptoSaid' is the law's where the arguments, and the package variables that the reading takes, are together of bulk at most 1048576: NARROWER than '..Said'. Prove '..Said' where nothing that the law and all that it calls make is longer than what came in: it says more and counts as full. Else prove '..UptoSaid'. A law counts once. -/
mutual
def uptoBulk {H : Type} : DataW H → Nat
  | .lit (.string bytes) => bytes.length + 1
  | .lit _ => 1
  | .nil => 1
  | .ptr d => uptoBulk d + 1
  | .slice elems spare => uptoBulkAll elems + uptoBulkAll spare + 1
  | .agg parts => uptoBulkAll parts + 1
  | .iface _ d => uptoBulk d + 1
  | .map entries => uptoBulkEntries entries + 1
  | .held _ => 1
def uptoBulkAll {H : Type} : List (DataW H) → Nat
  | [] => 0
  | d :: r => uptoBulk d + uptoBulkAll r
def uptoBulkEntries {H : Type} : List (Lit × DataW H) → Nat
  | [] => 0
  | x :: r => uptoBulkEntry x + uptoBulkEntries r
def uptoBulkEntry {H : Type} : Lit × DataW H → Nat
  | (.string bytes, d) => bytes.length + uptoBulk d + 1
  | (_, d) => uptoBulk d + 1
 end
def uptoSmall : (H : Type) → List (DataW H) → Bool := fun _ ds => decide (uptoBulkAll ds ≤ 1048576)
def OpenSpec.upto (s : _root_.Go.ChangeSpec) : _root_.Go.OpenSpec := { _root_.Go.OpenSpec.ofChange s with cond := some uptoSmall }

/-- 'laws.FnFairVisits', WHERE WHAT IT READS IS OF BULK AT MOST 1048576: true; the input reads as it did. -/
def fnFairVisitsUptoRow : OpenClaim := { program := "ytalehninmdcoeaagreatdoor", sum := "3f8de9919348c847d8f4f1d370e1309bcab965314b85b86c34587fca30f3b343", func := "loop.example/opentables/laws.FnFairVisits", spec := "fnFairVisits", inPlace := ["internal/reflectlite.TypeOf", "internal/reflectlite.ValueOf", "(internal/reflectlite.Value).Type", "(internal/reflectlite.Value).IsNil", "(internal/reflectlite.Value).Elem", "(internal/reflectlite.Value).Set"], unfollowed := true, recurses := true, named := ["errors.errorType"], apart := false, laid := [("errors.errorType", laid_errors_errorType)], narrowed := true }
def FnFairVisitsUptoSaid : Prop := fnFairVisitsUptoRow.holds Tryz.pinned (OpenSpec.upto fnFairVisitsSpec)

/-- 'laws.FnExactMakeOrder', WHERE WHAT IT READS IS OF BULK AT MOST 1048576: true; the input reads as it did. -/
def fnExactMakeOrderUptoRow : OpenClaim := { program := "ytalehninmdcoeaagreatdoor", sum := "3f8de9919348c847d8f4f1d370e1309bcab965314b85b86c34587fca30f3b343", func := "loop.example/opentables/laws.FnExactMakeOrder", spec := "fnExactMakeOrder", inPlace := ["internal/reflectlite.TypeOf", "internal/reflectlite.ValueOf", "(internal/reflectlite.Value).Type", "(internal/reflectlite.Value).IsNil", "(internal/reflectlite.Value).Elem", "(internal/reflectlite.Value).Set"], unfollowed := true, recurses := true, named := ["errors.errorType"], apart := false, laid := [("errors.errorType", laid_errors_errorType)], narrowed := true }
def FnExactMakeOrderUptoSaid : Prop := fnExactMakeOrderUptoRow.holds Tryz.pinned (OpenSpec.upto fnExactMakeOrderSpec)

/-- 'laws.FnExactIsMade', WHERE WHAT IT READS IS OF BULK AT MOST 1048576: true; the input reads as it did. -/
def fnExactIsMadeUptoRow : OpenClaim := { program := "ytalehninmdcoeaagreatdoor", sum := "3f8de9919348c847d8f4f1d370e1309bcab965314b85b86c34587fca30f3b343", func := "loop.example/opentables/laws.FnExactIsMade", spec := "fnExactIsMade", inPlace := ["internal/reflectlite.TypeOf", "internal/reflectlite.ValueOf", "(internal/reflectlite.Value).Type", "(internal/reflectlite.Value).IsNil", "(internal/reflectlite.Value).Elem", "(internal/reflectlite.Value).Set"], unfollowed := true, recurses := true, named := ["errors.errorType"], apart := false, laid := [("errors.errorType", laid_errors_errorType)], narrowed := true }
def FnExactIsMadeUptoSaid : Prop := fnExactIsMadeUptoRow.holds Tryz.pinned (OpenSpec.upto fnExactIsMadeSpec)

/-- 'laws.FnDropShift', WHERE WHAT IT READS IS OF BULK AT MOST 1048576: true; the input reads as it did. -/
def fnDropShiftUptoRow : OpenClaim := { program := "ytalehninmdcoeaagreatdoor", sum := "3f8de9919348c847d8f4f1d370e1309bcab965314b85b86c34587fca30f3b343", func := "loop.example/opentables/laws.FnDropShift", spec := "fnDropShift", inPlace := ["internal/reflectlite.ValueOf", "(internal/reflectlite.Value).Type", "(internal/reflectlite.Value).IsNil", "internal/reflectlite.TypeOf", "(internal/reflectlite.Value).Elem", "(internal/reflectlite.Value).Set"], unfollowed := true, recurses := true, named := ["errors.errorType"], apart := false, laid := [("errors.errorType", laid_errors_errorType)], narrowed := true }
def FnDropShiftUptoSaid : Prop := fnDropShiftUptoRow.holds Tryz.pinned (OpenSpec.upto fnDropShiftSpec)

/-- 'laws.FnShiftAll', WHERE WHAT IT READS IS OF BULK AT MOST 1048576: true; the input reads as it did. -/
def fnShiftAllUptoRow : OpenClaim := { program := "ytalehninmdcoeaagreatdoor", sum := "3f8de9919348c847d8f4f1d370e1309bcab965314b85b86c34587fca30f3b343", func := "loop.example/opentables/laws.FnShiftAll", spec := "fnShiftAll", inPlace := ["internal/reflectlite.TypeOf", "internal/reflectlite.ValueOf", "(internal/reflectlite.Value).Type", "(internal/reflectlite.Value).IsNil", "(internal/reflectlite.Value).Elem", "(internal/reflectlite.Value).Set"], unfollowed := true, recurses := true, named := ["errors.errorType"], apart := false, laid := [("errors.errorType", laid_errors_errorType)], narrowed := true }
def FnShiftAllUptoSaid : Prop := fnShiftAllUptoRow.holds Tryz.pinned (OpenSpec.upto fnShiftAllSpec)

/-- 'laws.FnAtHome', WHERE WHAT IT READS IS OF BULK AT MOST 1048576: true; the input reads as it did. -/
def fnAtHomeUptoRow : OpenClaim := { program := "ytalehninmdcoeaagreatdoor", sum := "3f8de9919348c847d8f4f1d370e1309bcab965314b85b86c34587fca30f3b343", func := "loop.example/opentables/laws.FnAtHome", spec := "fnAtHome", inPlace := ["internal/reflectlite.TypeOf", "internal/reflectlite.ValueOf", "(internal/reflectlite.Value).Type", "(internal/reflectlite.Value).IsNil", "(internal/reflectlite.Value).Elem", "(internal/reflectlite.Value).Set"], unfollowed := true, recurses := true, named := ["errors.errorType"], apart := false, laid := [("errors.errorType", laid_errors_errorType)], narrowed := true }
def FnAtHomeUptoSaid : Prop := fnAtHomeUptoRow.holds Tryz.pinned (OpenSpec.upto fnAtHomeSpec)

/-- 'laws.FnFairTurned', WHERE WHAT IT READS IS OF BULK AT MOST 1048576: true; the input reads as it did. -/
def fnFairTurnedUptoRow : OpenClaim := { program := "ytalehninmdcoeaagreatdoor", sum := "3f8de9919348c847d8f4f1d370e1309bcab965314b85b86c34587fca30f3b343", func := "loop.example/opentables/laws.FnFairTurned", spec := "fnFairTurned", inPlace := ["internal/reflectlite.TypeOf", "internal/reflectlite.ValueOf", "(internal/reflectlite.Value).Type", "(internal/reflectlite.Value).IsNil", "(internal/reflectlite.Value).Elem", "(internal/reflectlite.Value).Set"], unfollowed := true, recurses := true, named := ["errors.errorType"], apart := false, laid := [("errors.errorType", laid_errors_errorType)], narrowed := true }
def FnFairTurnedUptoSaid : Prop := fnFairTurnedUptoRow.holds Tryz.pinned (OpenSpec.upto fnFairTurnedSpec)

/-- 'laws.FnShiftTurned', WHERE WHAT IT READS IS OF BULK AT MOST 1048576: true; the input reads as it did. -/
def fnShiftTurnedUptoRow : OpenClaim := { program := "ytalehninmdcoeaagreatdoor", sum := "3f8de9919348c847d8f4f1d370e1309bcab965314b85b86c34587fca30f3b343", func := "loop.example/opentables/laws.FnShiftTurned", spec := "fnShiftTurned", inPlace := ["internal/reflectlite.ValueOf", "(internal/reflectlite.Value).Type", "(internal/reflectlite.Value).IsNil", "internal/reflectlite.TypeOf", "(internal/reflectlite.Value).Elem", "(internal/reflectlite.Value).Set"], unfollowed := true, recurses := true, named := ["errors.errorType"], apart := false, laid := [("errors.errorType", laid_errors_errorType)], narrowed := true }
def FnShiftTurnedUptoSaid : Prop := fnShiftTurnedUptoRow.holds Tryz.pinned (OpenSpec.upto fnShiftTurnedSpec)

end Rows
end Go.Proofs.YtalehninmdcoeaaGreatDoor

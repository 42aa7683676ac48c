/-
  NARROWER THAN 'FOR EVERY INPUT', by the rows' own cells (each row's printed sentence says how): FnExactFairMiss: laid · FnFairMiss: laid · FnMoreMisses: laid · FnFairHits: laid · FnShiftClean: laid.
  DERIVED. THE GIVEN ROWS OF THIS SEAT. 5 by the template 'for every input the law returns true; each argument reads behind the call as it read before'; 0 by the template 'total and deterministic' (their statements: YtpncpeokdcolpaaGreatDoorTotals.lean).
  GIVEN WITH THE SEED: the statements are not yours to turn. If you find one false, say at which input.
  Laid BY PROGRAM, IN A SANDBOX (cutbox-rows.mjs): the forced cells as the released guide's own fill.sh prints them over the translation 60179e4bdfb71f1b… (all of the seat's roots in one cut). By AI agents, Wed Nov 11 2026. No macro, syntax, notation, axiom, sorry.
-/
import Derived.Test.YtpncpeokdcolpaaGreatDoorChecked
import GoSem.Claim
import GoSem.ClaimJoined
import GoSem.ClaimMapViews
import Derived.JoinedTies
import Derived.KernelRfl
namespace Go.Proofs.YtpncpeokdcolpaaGreatDoor
/- THE CELL 'sum', in the pinned program and in every row, IS THE sha256 OF THE DUMP (.gsa) THAT YtpncpeokdcolpaaGreatDoorProg.lean LOADS. Nothing in Lean hashes anything: it is a label: what it is worth is what the hold of that sum in a sandbox is worth. -/
noncomputable def Tryz.pinned : Pinned := { name := "ytpncpeokdcolpaagreatdoor", sum := "60179e4bdfb71f1b1ef9898f1fb8b8c7b326270c7086b042f2cdc0cc9db40022", checked := Tryz.checked }
namespace Rows
def none {H : Type} : Left H := { results := [], args := [] }

/- WHAT THE LISTED PACKAGE-LEVEL VARIABLES READ AS WHEN THE CALL BEGINS. Each datum BY PROGRAM (the guide's laid-datum.mjs) off the statement by which the dump's own 'gosem.cut.vars' lays the variable. In a bare row this is a premise. The card (YtpncpeokdcolpaaGreatDoorCards.lean) ties it to the program's text. -/
def laid_errors_errorType {H : Type} : DataW H := .iface "internal/reflectlite.rtype" (.agg [.ptr (.lit (.string [101, 114, 114, 111, 114]))])

/-- 'laws.FnExactFairMiss': WHATEVER THE INPUT: true; the input reads as it did. -/
def fnExactFairMissSpec : ChangeSpec := { name := "fnExactFairMiss", fn := fun _ => fun
  | [d1, d2] => { results := [.lit (.bool true)], args := [d1, d2] }
  | _ => none }
def fnExactFairMissRow : OpenClaim := { program := "ytpncpeokdcolpaagreatdoor", sum := "60179e4bdfb71f1b1ef9898f1fb8b8c7b326270c7086b042f2cdc0cc9db40022", func := "loop.example/opentables/laws.FnExactFairMiss", spec := "fnExactFairMiss", inPlace := ["internal/reflectlite.TypeOf", "internal/reflectlite.ValueOf", "(internal/reflectlite.Value).Type", "(internal/reflectlite.Value).IsNil", "(internal/reflectlite.Value).Elem", "(internal/reflectlite.Value).Set"], unfollowed := true, recurses := true, named := ["errors.errorType"], apart := false, laid := [("errors.errorType", laid_errors_errorType)] }
def FnExactFairMissSaid : Prop := fnExactFairMissRow.holds Tryz.pinned (OpenSpec.ofChange fnExactFairMissSpec)

/-- ITS FALSE NEIGHBOUR: 'it returns false'. Refute it at one input. -/
def fnExactFairMissWrong : ChangeSpec := { name := "fnExactFairMiss", fn := fun _ => fun
  | [d1, d2] => { results := [.lit (.bool false)], args := [d1, d2] }
  | _ => none }
def FnExactFairMissWrongFalsely : Prop := fnExactFairMissRow.holds Tryz.pinned (OpenSpec.ofChange fnExactFairMissWrong)

/-- 'laws.FnFairMiss': WHATEVER THE INPUT: true; the input reads as it did. -/
def fnFairMissSpec : ChangeSpec := { name := "fnFairMiss", fn := fun _ => fun
  | [d] => { results := [.lit (.bool true)], args := [d] }
  | _ => none }
def fnFairMissRow : OpenClaim := { program := "ytpncpeokdcolpaagreatdoor", sum := "60179e4bdfb71f1b1ef9898f1fb8b8c7b326270c7086b042f2cdc0cc9db40022", func := "loop.example/opentables/laws.FnFairMiss", spec := "fnFairMiss", inPlace := ["internal/reflectlite.TypeOf", "internal/reflectlite.ValueOf", "(internal/reflectlite.Value).Type", "(internal/reflectlite.Value).IsNil", "(internal/reflectlite.Value).Elem", "(internal/reflectlite.Value).Set"], unfollowed := true, recurses := true, named := ["errors.errorType"], apart := false, laid := [("errors.errorType", laid_errors_errorType)] }
def FnFairMissSaid : Prop := fnFairMissRow.holds Tryz.pinned (OpenSpec.ofChange fnFairMissSpec)

/-- ITS FALSE NEIGHBOUR: 'it returns false'. Refute it at one input. -/
def fnFairMissWrong : ChangeSpec := { name := "fnFairMiss", fn := fun _ => fun
  | [d] => { results := [.lit (.bool false)], args := [d] }
  | _ => none }
def FnFairMissWrongFalsely : Prop := fnFairMissRow.holds Tryz.pinned (OpenSpec.ofChange fnFairMissWrong)

/-- 'laws.FnMoreMisses': WHATEVER THE INPUT: true; the input reads as it did. -/
def fnMoreMissesSpec : ChangeSpec := { name := "fnMoreMisses", fn := fun _ => fun
  | [d] => { results := [.lit (.bool true)], args := [d] }
  | _ => none }
def fnMoreMissesRow : OpenClaim := { program := "ytpncpeokdcolpaagreatdoor", sum := "60179e4bdfb71f1b1ef9898f1fb8b8c7b326270c7086b042f2cdc0cc9db40022", func := "loop.example/opentables/laws.FnMoreMisses", spec := "fnMoreMisses", inPlace := ["internal/reflectlite.TypeOf", "internal/reflectlite.ValueOf", "(internal/reflectlite.Value).Type", "(internal/reflectlite.Value).IsNil", "(internal/reflectlite.Value).Elem", "(internal/reflectlite.Value).Set"], unfollowed := true, recurses := true, named := ["errors.errorType"], apart := false, laid := [("errors.errorType", laid_errors_errorType)] }
def FnMoreMissesSaid : Prop := fnMoreMissesRow.holds Tryz.pinned (OpenSpec.ofChange fnMoreMissesSpec)

/-- ITS FALSE NEIGHBOUR: 'it returns false'. Refute it at one input. -/
def fnMoreMissesWrong : ChangeSpec := { name := "fnMoreMisses", fn := fun _ => fun
  | [d] => { results := [.lit (.bool false)], args := [d] }
  | _ => none }
def FnMoreMissesWrongFalsely : Prop := fnMoreMissesRow.holds Tryz.pinned (OpenSpec.ofChange fnMoreMissesWrong)

/-- 'laws.FnFairHits': WHATEVER THE INPUT: true; the input reads as it did. -/
def fnFairHitsSpec : ChangeSpec := { name := "fnFairHits", fn := fun _ => fun
  | [d] => { results := [.lit (.bool true)], args := [d] }
  | _ => none }
def fnFairHitsRow : OpenClaim := { program := "ytpncpeokdcolpaagreatdoor", sum := "60179e4bdfb71f1b1ef9898f1fb8b8c7b326270c7086b042f2cdc0cc9db40022", func := "loop.example/opentables/laws.FnFairHits", spec := "fnFairHits", inPlace := ["internal/reflectlite.TypeOf", "internal/reflectlite.ValueOf", "(internal/reflectlite.Value).Type", "(internal/reflectlite.Value).IsNil", "(internal/reflectlite.Value).Elem", "(internal/reflectlite.Value).Set"], unfollowed := true, recurses := true, named := ["errors.errorType"], apart := false, laid := [("errors.errorType", laid_errors_errorType)] }
def FnFairHitsSaid : Prop := fnFairHitsRow.holds Tryz.pinned (OpenSpec.ofChange fnFairHitsSpec)

/-- ITS FALSE NEIGHBOUR: 'it returns false'. Refute it at one input. -/
def fnFairHitsWrong : ChangeSpec := { name := "fnFairHits", fn := fun _ => fun
  | [d] => { results := [.lit (.bool false)], args := [d] }
  | _ => none }
def FnFairHitsWrongFalsely : Prop := fnFairHitsRow.holds Tryz.pinned (OpenSpec.ofChange fnFairHitsWrong)

/-- 'laws.FnShiftClean': WHATEVER THE INPUT: true; the input reads as it did. -/
def fnShiftCleanSpec : ChangeSpec := { name := "fnShiftClean", fn := fun _ => fun
  | [d] => { results := [.lit (.bool true)], args := [d] }
  | _ => none }
def fnShiftCleanRow : OpenClaim := { program := "ytpncpeokdcolpaagreatdoor", sum := "60179e4bdfb71f1b1ef9898f1fb8b8c7b326270c7086b042f2cdc0cc9db40022", func := "loop.example/opentables/laws.FnShiftClean", spec := "fnShiftClean", inPlace := ["internal/reflectlite.ValueOf", "(internal/reflectlite.Value).Type", "(internal/reflectlite.Value).IsNil", "internal/reflectlite.TypeOf", "(internal/reflectlite.Value).Elem", "(internal/reflectlite.Value).Set"], unfollowed := true, recurses := true, named := ["errors.errorType"], apart := false, laid := [("errors.errorType", laid_errors_errorType)] }
def FnShiftCleanSaid : Prop := fnShiftCleanRow.holds Tryz.pinned (OpenSpec.ofChange fnShiftCleanSpec)

/-- ITS FALSE NEIGHBOUR: 'it returns false'. Refute it at one input. -/
def fnShiftCleanWrong : ChangeSpec := { name := "fnShiftClean", fn := fun _ => fun
  | [d] => { results := [.lit (.bool false)], args := [d] }
  | _ => none }
def FnShiftCleanWrongFalsely : Prop := fnShiftCleanRow.holds Tryz.pinned (OpenSpec.ofChange fnShiftCleanWrong)

/- THE SECOND FORM. 'bulk': how many values and letters a reading holds, each counted each time it is reached (what is shared counts as often as it is met; a slice's spare places count too). A statement '..UptoSaid' is the law's where the arguments, and the package variables that the reading takes, are together of bulk at most 1048576: NARROWER than '..Said'. Prove '..Said' where nothing that the law and all that it calls make is longer than what came in: it says more and counts as full. Else prove '..UptoSaid'. A law counts once. -/
mutual
def uptoBulk {H : Type} : DataW H → Nat
  | .lit (.string bytes) => bytes.length + 1
  | .lit _ => 1
  | .nil => 1
  | .ptr d => uptoBulk d + 1
  | .slice elems spare => uptoBulkAll elems + uptoBulkAll spare + 1
  | .agg parts => uptoBulkAll parts + 1
  | .iface _ d => uptoBulk d + 1
  | .map entries => uptoBulkEntries entries + 1
  | .held _ => 1
def uptoBulkAll {H : Type} : List (DataW H) → Nat
  | [] => 0
  | d :: r => uptoBulk d + uptoBulkAll r
def uptoBulkEntries {H : Type} : List (Lit × DataW H) → Nat
  | [] => 0
  | x :: r => uptoBulkEntry x + uptoBulkEntries r
def uptoBulkEntry {H : Type} : Lit × DataW H → Nat
  | (.string bytes, d) => bytes.length + uptoBulk d + 1
  | (_, d) => uptoBulk d + 1
 end
def uptoSmall : (H : Type) → List (DataW H) → Bool := fun _ ds => decide (uptoBulkAll ds ≤ 1048576)
def OpenSpec.upto (s : _root_.Go.ChangeSpec) : _root_.Go.OpenSpec := { _root_.Go.OpenSpec.ofChange s with cond := some uptoSmall }

/-- 'laws.FnExactFairMiss', WHERE WHAT IT READS IS OF BULK AT MOST 1048576: true; the input reads as it did. -/
def fnExactFairMissUptoRow : OpenClaim := { program := "ytpncpeokdcolpaagreatdoor", sum := "60179e4bdfb71f1b1ef9898f1fb8b8c7b326270c7086b042f2cdc0cc9db40022", func := "loop.example/opentables/laws.FnExactFairMiss", spec := "fnExactFairMiss", inPlace := ["internal/reflectlite.TypeOf", "internal/reflectlite.ValueOf", "(internal/reflectlite.Value).Type", "(internal/reflectlite.Value).IsNil", "(internal/reflectlite.Value).Elem", "(internal/reflectlite.Value).Set"], unfollowed := true, recurses := true, named := ["errors.errorType"], apart := false, laid := [("errors.errorType", laid_errors_errorType)], narrowed := true }
def FnExactFairMissUptoSaid : Prop := fnExactFairMissUptoRow.holds Tryz.pinned (OpenSpec.upto fnExactFairMissSpec)

/-- 'laws.FnFairMiss', WHERE WHAT IT READS IS OF BULK AT MOST 1048576: true; the input reads as it did. -/
def fnFairMissUptoRow : OpenClaim := { program := "ytpncpeokdcolpaagreatdoor", sum := "60179e4bdfb71f1b1ef9898f1fb8b8c7b326270c7086b042f2cdc0cc9db40022", func := "loop.example/opentables/laws.FnFairMiss", spec := "fnFairMiss", inPlace := ["internal/reflectlite.TypeOf", "internal/reflectlite.ValueOf", "(internal/reflectlite.Value).Type", "(internal/reflectlite.Value).IsNil", "(internal/reflectlite.Value).Elem", "(internal/reflectlite.Value).Set"], unfollowed := true, recurses := true, named := ["errors.errorType"], apart := false, laid := [("errors.errorType", laid_errors_errorType)], narrowed := true }
def FnFairMissUptoSaid : Prop := fnFairMissUptoRow.holds Tryz.pinned (OpenSpec.upto fnFairMissSpec)

/-- 'laws.FnMoreMisses', WHERE WHAT IT READS IS OF BULK AT MOST 1048576: true; the input reads as it did. -/
def fnMoreMissesUptoRow : OpenClaim := { program := "ytpncpeokdcolpaagreatdoor", sum := "60179e4bdfb71f1b1ef9898f1fb8b8c7b326270c7086b042f2cdc0cc9db40022", func := "loop.example/opentables/laws.FnMoreMisses", spec := "fnMoreMisses", inPlace := ["internal/reflectlite.TypeOf", "internal/reflectlite.ValueOf", "(internal/reflectlite.Value).Type", "(internal/reflectlite.Value).IsNil", "(internal/reflectlite.Value).Elem", "(internal/reflectlite.Value).Set"], unfollowed := true, recurses := true, named := ["errors.errorType"], apart := false, laid := [("errors.errorType", laid_errors_errorType)], narrowed := true }
def FnMoreMissesUptoSaid : Prop := fnMoreMissesUptoRow.holds Tryz.pinned (OpenSpec.upto fnMoreMissesSpec)

/-- 'laws.FnFairHits', WHERE WHAT IT READS IS OF BULK AT MOST 1048576: true; the input reads as it did. -/
def fnFairHitsUptoRow : OpenClaim := { program := "ytpncpeokdcolpaagreatdoor", sum := "60179e4bdfb71f1b1ef9898f1fb8b8c7b326270c7086b042f2cdc0cc9db40022", func := "loop.example/opentables/laws.FnFairHits", spec := "fnFairHits", inPlace := ["internal/reflectlite.TypeOf", "internal/reflectlite.ValueOf", "(internal/reflectlite.Value).Type", "(internal/reflectlite.Value).IsNil", "(internal/reflectlite.Value).Elem", "(internal/reflectlite.Value).Set"], unfollowed := true, recurses := true, named := ["errors.errorType"], apart := false, laid := [("errors.errorType", laid_errors_errorType)], narrowed := true }
def FnFairHitsUptoSaid : Prop := fnFairHitsUptoRow.holds Tryz.pinned (OpenSpec.upto fnFairHitsSpec)

/-- 'laws.FnShiftClean', WHERE WHAT IT READS IS OF BULK AT MOST 1048576: true; the input reads as it did. -/
def fnShiftCleanUptoRow : OpenClaim := { program := "ytpncpeokdcolpaagreatdoor", sum := "60179e4bdfb71f1b1ef9898f1fb8b8c7b326270c7086b042f2cdc0cc9db40022", func := "loop.example/opentables/laws.FnShiftClean", spec := "fnShiftClean", inPlace := ["internal/reflectlite.ValueOf", "(internal/reflectlite.Value).Type", "(internal/reflectlite.Value).IsNil", "internal/reflectlite.TypeOf", "(internal/reflectlite.Value).Elem", "(internal/reflectlite.Value).Set"], unfollowed := true, recurses := true, named := ["errors.errorType"], apart := false, laid := [("errors.errorType", laid_errors_errorType)], narrowed := true }
def FnShiftCleanUptoSaid : Prop := fnShiftCleanUptoRow.holds Tryz.pinned (OpenSpec.upto fnShiftCleanSpec)

end Rows
end Go.Proofs.YtpncpeokdcolpaaGreatDoor

/-
  NARROWER THAN 'FOR EVERY INPUT', by the rows' own cells (each row's printed sentence says how): FnExactFairVisits: laid · FnExactFairPut: laid · FnExactSwapsBy: laid · FnExactFairAll: laid · FnExactFairDrop: laid · FnExactFairOf: laid · FnFairVisits: laid · FnFairRuns: laid.
  DERIVED. THE GIVEN ROWS OF THIS SEAT. 8 by the template 'for every input the law returns true; each argument reads behind the call as it read before'; 0 by the template 'total and deterministic' (their statements: YtdoodkdlfkekmaaGreatDoorTotals.lean).
  GIVEN WITH THE SEED: the statements are not yours to turn. If you find one false, say at which input.
  Laid BY PROGRAM, IN A SANDBOX (cutbox-rows.mjs): the forced cells as the released guide's own fill.sh prints them over the translation f262a43c20360e03… (all of the seat's roots in one cut). By AI agents, Wed Nov 11 2026. No macro, syntax, notation, axiom, sorry.
-/
import Derived.Test.YtdoodkdlfkekmaaGreatDoorChecked
import GoSem.Claim
import GoSem.ClaimJoined
import GoSem.ClaimMapViews
import Derived.JoinedTies
import Derived.KernelRfl
namespace Go.Proofs.YtdoodkdlfkekmaaGreatDoor
/- THE CELL 'sum', in the pinned program and in every row, IS THE sha256 OF THE DUMP (.gsa) THAT YtdoodkdlfkekmaaGreatDoorProg.lean LOADS. Nothing in Lean hashes anything: it is a label: what it is worth is what the hold of that sum in a sandbox is worth. -/
noncomputable def Tryz.pinned : Pinned := { name := "ytdoodkdlfkekmaagreatdoor", sum := "f262a43c20360e03589bf7acfdfdcd028b4af955068b325c0bcd1c440780cdc7", checked := Tryz.checked }
namespace Rows
def none {H : Type} : Left H := { results := [], args := [] }

/- WHAT THE LISTED PACKAGE-LEVEL VARIABLES READ AS WHEN THE CALL BEGINS. Each datum BY PROGRAM (the guide's laid-datum.mjs) off the statement by which the dump's own 'gosem.cut.vars' lays the variable. In a bare row this is a premise. The card (YtdoodkdlfkekmaaGreatDoorCards.lean) ties it to the program's text. -/
def laid_errors_errorType {H : Type} : DataW H := .iface "internal/reflectlite.rtype" (.agg [.ptr (.lit (.string [101, 114, 114, 111, 114]))])

/-- 'laws.FnExactFairVisits': WHATEVER THE INPUT: true; the input reads as it did. -/
def fnExactFairVisitsSpec : ChangeSpec := { name := "fnExactFairVisits", fn := fun _ => fun
  | [d1, d2] => { results := [.lit (.bool true)], args := [d1, d2] }
  | _ => none }
def fnExactFairVisitsRow : OpenClaim := { program := "ytdoodkdlfkekmaagreatdoor", sum := "f262a43c20360e03589bf7acfdfdcd028b4af955068b325c0bcd1c440780cdc7", func := "loop.example/opentables/laws.FnExactFairVisits", spec := "fnExactFairVisits", inPlace := ["internal/reflectlite.TypeOf", "internal/reflectlite.ValueOf", "(internal/reflectlite.Value).Type", "(internal/reflectlite.Value).IsNil", "(internal/reflectlite.Value).Elem", "(internal/reflectlite.Value).Set"], unfollowed := true, recurses := true, named := ["errors.errorType"], apart := false, laid := [("errors.errorType", laid_errors_errorType)] }
def FnExactFairVisitsSaid : Prop := fnExactFairVisitsRow.holds Tryz.pinned (OpenSpec.ofChange fnExactFairVisitsSpec)

/-- ITS FALSE NEIGHBOUR: 'it returns false'. Refute it at one input. -/
def fnExactFairVisitsWrong : ChangeSpec := { name := "fnExactFairVisits", fn := fun _ => fun
  | [d1, d2] => { results := [.lit (.bool false)], args := [d1, d2] }
  | _ => none }
def FnExactFairVisitsWrongFalsely : Prop := fnExactFairVisitsRow.holds Tryz.pinned (OpenSpec.ofChange fnExactFairVisitsWrong)

/-- 'laws.FnExactFairPut': WHATEVER THE INPUT: true; the input reads as it did. -/
def fnExactFairPutSpec : ChangeSpec := { name := "fnExactFairPut", fn := fun _ => fun
  | [d1, d2] => { results := [.lit (.bool true)], args := [d1, d2] }
  | _ => none }
def fnExactFairPutRow : OpenClaim := { program := "ytdoodkdlfkekmaagreatdoor", sum := "f262a43c20360e03589bf7acfdfdcd028b4af955068b325c0bcd1c440780cdc7", func := "loop.example/opentables/laws.FnExactFairPut", spec := "fnExactFairPut", inPlace := ["internal/reflectlite.TypeOf", "internal/reflectlite.ValueOf", "(internal/reflectlite.Value).Type", "(internal/reflectlite.Value).IsNil", "(internal/reflectlite.Value).Elem", "(internal/reflectlite.Value).Set"], unfollowed := true, recurses := true, named := ["errors.errorType"], apart := false, laid := [("errors.errorType", laid_errors_errorType)] }
def FnExactFairPutSaid : Prop := fnExactFairPutRow.holds Tryz.pinned (OpenSpec.ofChange fnExactFairPutSpec)

/-- ITS FALSE NEIGHBOUR: 'it returns false'. Refute it at one input. -/
def fnExactFairPutWrong : ChangeSpec := { name := "fnExactFairPut", fn := fun _ => fun
  | [d1, d2] => { results := [.lit (.bool false)], args := [d1, d2] }
  | _ => none }
def FnExactFairPutWrongFalsely : Prop := fnExactFairPutRow.holds Tryz.pinned (OpenSpec.ofChange fnExactFairPutWrong)

/-- 'laws.FnExactSwapsBy': WHATEVER THE INPUT: true; the input reads as it did. -/
def fnExactSwapsBySpec : ChangeSpec := { name := "fnExactSwapsBy", fn := fun _ => fun
  | [d1, d2] => { results := [.lit (.bool true)], args := [d1, d2] }
  | _ => none }
def fnExactSwapsByRow : OpenClaim := { program := "ytdoodkdlfkekmaagreatdoor", sum := "f262a43c20360e03589bf7acfdfdcd028b4af955068b325c0bcd1c440780cdc7", func := "loop.example/opentables/laws.FnExactSwapsBy", spec := "fnExactSwapsBy", inPlace := ["internal/reflectlite.TypeOf", "internal/reflectlite.ValueOf", "(internal/reflectlite.Value).Type", "(internal/reflectlite.Value).IsNil", "(internal/reflectlite.Value).Elem", "(internal/reflectlite.Value).Set"], unfollowed := true, recurses := true, named := ["errors.errorType"], apart := false, laid := [("errors.errorType", laid_errors_errorType)] }
def FnExactSwapsBySaid : Prop := fnExactSwapsByRow.holds Tryz.pinned (OpenSpec.ofChange fnExactSwapsBySpec)

/-- ITS FALSE NEIGHBOUR: 'it returns false'. Refute it at one input. -/
def fnExactSwapsByWrong : ChangeSpec := { name := "fnExactSwapsBy", fn := fun _ => fun
  | [d1, d2] => { results := [.lit (.bool false)], args := [d1, d2] }
  | _ => none }
def FnExactSwapsByWrongFalsely : Prop := fnExactSwapsByRow.holds Tryz.pinned (OpenSpec.ofChange fnExactSwapsByWrong)

/-- 'laws.FnExactFairAll': WHATEVER THE INPUT: true; the input reads as it did. -/
def fnExactFairAllSpec : ChangeSpec := { name := "fnExactFairAll", fn := fun _ => fun
  | [d1, d2] => { results := [.lit (.bool true)], args := [d1, d2] }
  | _ => none }
def fnExactFairAllRow : OpenClaim := { program := "ytdoodkdlfkekmaagreatdoor", sum := "f262a43c20360e03589bf7acfdfdcd028b4af955068b325c0bcd1c440780cdc7", func := "loop.example/opentables/laws.FnExactFairAll", spec := "fnExactFairAll", inPlace := ["internal/reflectlite.TypeOf", "internal/reflectlite.ValueOf", "(internal/reflectlite.Value).Type", "(internal/reflectlite.Value).IsNil", "(internal/reflectlite.Value).Elem", "(internal/reflectlite.Value).Set"], unfollowed := true, recurses := true, named := ["errors.errorType"], apart := false, laid := [("errors.errorType", laid_errors_errorType)] }
def FnExactFairAllSaid : Prop := fnExactFairAllRow.holds Tryz.pinned (OpenSpec.ofChange fnExactFairAllSpec)

/-- ITS FALSE NEIGHBOUR: 'it returns false'. Refute it at one input. -/
def fnExactFairAllWrong : ChangeSpec := { name := "fnExactFairAll", fn := fun _ => fun
  | [d1, d2] => { results := [.lit (.bool false)], args := [d1, d2] }
  | _ => none }
def FnExactFairAllWrongFalsely : Prop := fnExactFairAllRow.holds Tryz.pinned (OpenSpec.ofChange fnExactFairAllWrong)

/-- 'laws.FnExactFairDrop': WHATEVER THE INPUT: true; the input reads as it did. -/
def fnExactFairDropSpec : ChangeSpec := { name := "fnExactFairDrop", fn := fun _ => fun
  | [d1, d2] => { results := [.lit (.bool true)], args := [d1, d2] }
  | _ => none }
def fnExactFairDropRow : OpenClaim := { program := "ytdoodkdlfkekmaagreatdoor", sum := "f262a43c20360e03589bf7acfdfdcd028b4af955068b325c0bcd1c440780cdc7", func := "loop.example/opentables/laws.FnExactFairDrop", spec := "fnExactFairDrop", inPlace := ["internal/reflectlite.ValueOf", "(internal/reflectlite.Value).Type", "(internal/reflectlite.Value).IsNil", "internal/reflectlite.TypeOf", "(internal/reflectlite.Value).Elem", "(internal/reflectlite.Value).Set"], unfollowed := true, recurses := true, named := ["errors.errorType"], apart := false, laid := [("errors.errorType", laid_errors_errorType)] }
def FnExactFairDropSaid : Prop := fnExactFairDropRow.holds Tryz.pinned (OpenSpec.ofChange fnExactFairDropSpec)

/-- ITS FALSE NEIGHBOUR: 'it returns false'. Refute it at one input. -/
def fnExactFairDropWrong : ChangeSpec := { name := "fnExactFairDrop", fn := fun _ => fun
  | [d1, d2] => { results := [.lit (.bool false)], args := [d1, d2] }
  | _ => none }
def FnExactFairDropWrongFalsely : Prop := fnExactFairDropRow.holds Tryz.pinned (OpenSpec.ofChange fnExactFairDropWrong)

/-- 'laws.FnExactFairOf': WHATEVER THE INPUT: true; the input reads as it did. -/
def fnExactFairOfSpec : ChangeSpec := { name := "fnExactFairOf", fn := fun _ => fun
  | [d] => { results := [.lit (.bool true)], args := [d] }
  | _ => none }
def fnExactFairOfRow : OpenClaim := { program := "ytdoodkdlfkekmaagreatdoor", sum := "f262a43c20360e03589bf7acfdfdcd028b4af955068b325c0bcd1c440780cdc7", func := "loop.example/opentables/laws.FnExactFairOf", spec := "fnExactFairOf", inPlace := ["internal/reflectlite.TypeOf", "internal/reflectlite.ValueOf", "(internal/reflectlite.Value).Type", "(internal/reflectlite.Value).IsNil", "(internal/reflectlite.Value).Elem", "(internal/reflectlite.Value).Set"], unfollowed := true, recurses := true, named := ["errors.errorType"], apart := false, laid := [("errors.errorType", laid_errors_errorType)] }
def FnExactFairOfSaid : Prop := fnExactFairOfRow.holds Tryz.pinned (OpenSpec.ofChange fnExactFairOfSpec)

/-- ITS FALSE NEIGHBOUR: 'it returns false'. Refute it at one input. -/
def fnExactFairOfWrong : ChangeSpec := { name := "fnExactFairOf", fn := fun _ => fun
  | [d] => { results := [.lit (.bool false)], args := [d] }
  | _ => none }
def FnExactFairOfWrongFalsely : Prop := fnExactFairOfRow.holds Tryz.pinned (OpenSpec.ofChange fnExactFairOfWrong)

/-- 'laws.FnFairVisits': WHATEVER THE INPUT: true; the input reads as it did. -/
def fnFairVisitsSpec : ChangeSpec := { name := "fnFairVisits", fn := fun _ => fun
  | [d] => { results := [.lit (.bool true)], args := [d] }
  | _ => none }
def fnFairVisitsRow : OpenClaim := { program := "ytdoodkdlfkekmaagreatdoor", sum := "f262a43c20360e03589bf7acfdfdcd028b4af955068b325c0bcd1c440780cdc7", func := "loop.example/opentables/laws.FnFairVisits", spec := "fnFairVisits", inPlace := ["internal/reflectlite.TypeOf", "internal/reflectlite.ValueOf", "(internal/reflectlite.Value).Type", "(internal/reflectlite.Value).IsNil", "(internal/reflectlite.Value).Elem", "(internal/reflectlite.Value).Set"], unfollowed := true, recurses := true, named := ["errors.errorType"], apart := false, laid := [("errors.errorType", laid_errors_errorType)] }
def FnFairVisitsSaid : Prop := fnFairVisitsRow.holds Tryz.pinned (OpenSpec.ofChange fnFairVisitsSpec)

/-- ITS FALSE NEIGHBOUR: 'it returns false'. Refute it at one input. -/
def fnFairVisitsWrong : ChangeSpec := { name := "fnFairVisits", fn := fun _ => fun
  | [d] => { results := [.lit (.bool false)], args := [d] }
  | _ => none }
def FnFairVisitsWrongFalsely : Prop := fnFairVisitsRow.holds Tryz.pinned (OpenSpec.ofChange fnFairVisitsWrong)

/-- 'laws.FnFairRuns': WHATEVER THE INPUT: true; the input reads as it did. -/
def fnFairRunsSpec : ChangeSpec := { name := "fnFairRuns", fn := fun _ => fun
  | [d] => { results := [.lit (.bool true)], args := [d] }
  | _ => none }
def fnFairRunsRow : OpenClaim := { program := "ytdoodkdlfkekmaagreatdoor", sum := "f262a43c20360e03589bf7acfdfdcd028b4af955068b325c0bcd1c440780cdc7", func := "loop.example/opentables/laws.FnFairRuns", spec := "fnFairRuns", inPlace := ["internal/reflectlite.TypeOf", "internal/reflectlite.ValueOf", "(internal/reflectlite.Value).Type", "(internal/reflectlite.Value).IsNil", "(internal/reflectlite.Value).Elem", "(internal/reflectlite.Value).Set"], unfollowed := true, recurses := true, named := ["errors.errorType"], apart := false, laid := [("errors.errorType", laid_errors_errorType)] }
def FnFairRunsSaid : Prop := fnFairRunsRow.holds Tryz.pinned (OpenSpec.ofChange fnFairRunsSpec)

/-- ITS FALSE NEIGHBOUR: 'it returns false'. Refute it at one input. -/
def fnFairRunsWrong : ChangeSpec := { name := "fnFairRuns", fn := fun _ => fun
  | [d] => { results := [.lit (.bool false)], args := [d] }
  | _ => none }
def FnFairRunsWrongFalsely : Prop := fnFairRunsRow.holds Tryz.pinned (OpenSpec.ofChange fnFairRunsWrong)

/- THE SECOND FORM. 'bulk': how many values and letters a reading holds, each counted each time it is reached (what is shared counts as often as it is met; a slice's spare places count too). A statement '..UptoSaid' is the law's where the arguments, and the package variables that the reading takes, are together of bulk at most 1048576: NARROWER than '..Said'. Prove '..Said' where nothing that the law and all that it calls make is longer than what came in: it says more and counts as full. Else prove '..UptoSaid'. A law counts once. -/
mutual
def uptoBulk {H : Type} : DataW H → Nat
  | .lit (.string bytes) => bytes.length + 1
  | .lit _ => 1
  | .nil => 1
  | .ptr d => uptoBulk d + 1
  | .slice elems spare => uptoBulkAll elems + uptoBulkAll spare + 1
  | .agg parts => uptoBulkAll parts + 1
  | .iface _ d => uptoBulk d + 1
  | .map entries => uptoBulkEntries entries + 1
  | .held _ => 1
def uptoBulkAll {H : Type} : List (DataW H) → Nat
  | [] => 0
  | d :: r => uptoBulk d + uptoBulkAll r
def uptoBulkEntries {H : Type} : List (Lit × DataW H) → Nat
  | [] => 0
  | x :: r => uptoBulkEntry x + uptoBulkEntries r
def uptoBulkEntry {H : Type} : Lit × DataW H → Nat
  | (.string bytes, d) => bytes.length + uptoBulk d + 1
  | (_, d) => uptoBulk d + 1
 end
def uptoSmall : (H : Type) → List (DataW H) → Bool := fun _ ds => decide (uptoBulkAll ds ≤ 1048576)
def OpenSpec.upto (s : _root_.Go.ChangeSpec) : _root_.Go.OpenSpec := { _root_.Go.OpenSpec.ofChange s with cond := some uptoSmall }

/-- 'laws.FnExactFairVisits', WHERE WHAT IT READS IS OF BULK AT MOST 1048576: true; the input reads as it did. -/
def fnExactFairVisitsUptoRow : OpenClaim := { program := "ytdoodkdlfkekmaagreatdoor", sum := "f262a43c20360e03589bf7acfdfdcd028b4af955068b325c0bcd1c440780cdc7", func := "loop.example/opentables/laws.FnExactFairVisits", spec := "fnExactFairVisits", inPlace := ["internal/reflectlite.TypeOf", "internal/reflectlite.ValueOf", "(internal/reflectlite.Value).Type", "(internal/reflectlite.Value).IsNil", "(internal/reflectlite.Value).Elem", "(internal/reflectlite.Value).Set"], unfollowed := true, recurses := true, named := ["errors.errorType"], apart := false, laid := [("errors.errorType", laid_errors_errorType)], narrowed := true }
def FnExactFairVisitsUptoSaid : Prop := fnExactFairVisitsUptoRow.holds Tryz.pinned (OpenSpec.upto fnExactFairVisitsSpec)

/-- 'laws.FnExactFairPut', WHERE WHAT IT READS IS OF BULK AT MOST 1048576: true; the input reads as it did. -/
def fnExactFairPutUptoRow : OpenClaim := { program := "ytdoodkdlfkekmaagreatdoor", sum := "f262a43c20360e03589bf7acfdfdcd028b4af955068b325c0bcd1c440780cdc7", func := "loop.example/opentables/laws.FnExactFairPut", spec := "fnExactFairPut", inPlace := ["internal/reflectlite.TypeOf", "internal/reflectlite.ValueOf", "(internal/reflectlite.Value).Type", "(internal/reflectlite.Value).IsNil", "(internal/reflectlite.Value).Elem", "(internal/reflectlite.Value).Set"], unfollowed := true, recurses := true, named := ["errors.errorType"], apart := false, laid := [("errors.errorType", laid_errors_errorType)], narrowed := true }
def FnExactFairPutUptoSaid : Prop := fnExactFairPutUptoRow.holds Tryz.pinned (OpenSpec.upto fnExactFairPutSpec)

/-- 'laws.FnExactSwapsBy', WHERE WHAT IT READS IS OF BULK AT MOST 1048576: true; the input reads as it did. -/
def fnExactSwapsByUptoRow : OpenClaim := { program := "ytdoodkdlfkekmaagreatdoor", sum := "f262a43c20360e03589bf7acfdfdcd028b4af955068b325c0bcd1c440780cdc7", func := "loop.example/opentables/laws.FnExactSwapsBy", spec := "fnExactSwapsBy", inPlace := ["internal/reflectlite.TypeOf", "internal/reflectlite.ValueOf", "(internal/reflectlite.Value).Type", "(internal/reflectlite.Value).IsNil", "(internal/reflectlite.Value).Elem", "(internal/reflectlite.Value).Set"], unfollowed := true, recurses := true, named := ["errors.errorType"], apart := false, laid := [("errors.errorType", laid_errors_errorType)], narrowed := true }
def FnExactSwapsByUptoSaid : Prop := fnExactSwapsByUptoRow.holds Tryz.pinned (OpenSpec.upto fnExactSwapsBySpec)

/-- 'laws.FnExactFairAll', WHERE WHAT IT READS IS OF BULK AT MOST 1048576: true; the input reads as it did. -/
def fnExactFairAllUptoRow : OpenClaim := { program := "ytdoodkdlfkekmaagreatdoor", sum := "f262a43c20360e03589bf7acfdfdcd028b4af955068b325c0bcd1c440780cdc7", func := "loop.example/opentables/laws.FnExactFairAll", spec := "fnExactFairAll", inPlace := ["internal/reflectlite.TypeOf", "internal/reflectlite.ValueOf", "(internal/reflectlite.Value).Type", "(internal/reflectlite.Value).IsNil", "(internal/reflectlite.Value).Elem", "(internal/reflectlite.Value).Set"], unfollowed := true, recurses := true, named := ["errors.errorType"], apart := false, laid := [("errors.errorType", laid_errors_errorType)], narrowed := true }
def FnExactFairAllUptoSaid : Prop := fnExactFairAllUptoRow.holds Tryz.pinned (OpenSpec.upto fnExactFairAllSpec)

/-- 'laws.FnExactFairDrop', WHERE WHAT IT READS IS OF BULK AT MOST 1048576: true; the input reads as it did. -/
def fnExactFairDropUptoRow : OpenClaim := { program := "ytdoodkdlfkekmaagreatdoor", sum := "f262a43c20360e03589bf7acfdfdcd028b4af955068b325c0bcd1c440780cdc7", func := "loop.example/opentables/laws.FnExactFairDrop", spec := "fnExactFairDrop", inPlace := ["internal/reflectlite.ValueOf", "(internal/reflectlite.Value).Type", "(internal/reflectlite.Value).IsNil", "internal/reflectlite.TypeOf", "(internal/reflectlite.Value).Elem", "(internal/reflectlite.Value).Set"], unfollowed := true, recurses := true, named := ["errors.errorType"], apart := false, laid := [("errors.errorType", laid_errors_errorType)], narrowed := true }
def FnExactFairDropUptoSaid : Prop := fnExactFairDropUptoRow.holds Tryz.pinned (OpenSpec.upto fnExactFairDropSpec)

/-- 'laws.FnExactFairOf', WHERE WHAT IT READS IS OF BULK AT MOST 1048576: true; the input reads as it did. -/
def fnExactFairOfUptoRow : OpenClaim := { program := "ytdoodkdlfkekmaagreatdoor", sum := "f262a43c20360e03589bf7acfdfdcd028b4af955068b325c0bcd1c440780cdc7", func := "loop.example/opentables/laws.FnExactFairOf", spec := "fnExactFairOf", inPlace := ["internal/reflectlite.TypeOf", "internal/reflectlite.ValueOf", "(internal/reflectlite.Value).Type", "(internal/reflectlite.Value).IsNil", "(internal/reflectlite.Value).Elem", "(internal/reflectlite.Value).Set"], unfollowed := true, recurses := true, named := ["errors.errorType"], apart := false, laid := [("errors.errorType", laid_errors_errorType)], narrowed := true }
def FnExactFairOfUptoSaid : Prop := fnExactFairOfUptoRow.holds Tryz.pinned (OpenSpec.upto fnExactFairOfSpec)

/-- 'laws.FnFairVisits', WHERE WHAT IT READS IS OF BULK AT MOST 1048576: true; the input reads as it did. -/
def fnFairVisitsUptoRow : OpenClaim := { program := "ytdoodkdlfkekmaagreatdoor", sum := "f262a43c20360e03589bf7acfdfdcd028b4af955068b325c0bcd1c440780cdc7", func := "loop.example/opentables/laws.FnFairVisits", spec := "fnFairVisits", inPlace := ["internal/reflectlite.TypeOf", "internal/reflectlite.ValueOf", "(internal/reflectlite.Value).Type", "(internal/reflectlite.Value).IsNil", "(internal/reflectlite.Value).Elem", "(internal/reflectlite.Value).Set"], unfollowed := true, recurses := true, named := ["errors.errorType"], apart := false, laid := [("errors.errorType", laid_errors_errorType)], narrowed := true }
def FnFairVisitsUptoSaid : Prop := fnFairVisitsUptoRow.holds Tryz.pinned (OpenSpec.upto fnFairVisitsSpec)

/-- 'laws.FnFairRuns', WHERE WHAT IT READS IS OF BULK AT MOST 1048576: true; the input reads as it did. -/
def fnFairRunsUptoRow : OpenClaim := { program := "ytdoodkdlfkekmaagreatdoor", sum := "f262a43c20360e03589bf7acfdfdcd028b4af955068b325c0bcd1c440780cdc7", func := "loop.example/opentables/laws.FnFairRuns", spec := "fnFairRuns", inPlace := ["internal/reflectlite.TypeOf", "internal/reflectlite.ValueOf", "(internal/reflectlite.Value).Type", "(internal/reflectlite.Value).IsNil", "(internal/reflectlite.Value).Elem", "(internal/reflectlite.Value).Set"], unfollowed := true, recurses := true, named := ["errors.errorType"], apart := false, laid := [("errors.errorType", laid_errors_errorType)], narrowed := true }
def FnFairRunsUptoSaid : Prop := fnFairRunsUptoRow.holds Tryz.pinned (OpenSpec.upto fnFairRunsSpec)

end Rows
end Go.Proofs.YtdoodkdlfkekmaaGreatDoor

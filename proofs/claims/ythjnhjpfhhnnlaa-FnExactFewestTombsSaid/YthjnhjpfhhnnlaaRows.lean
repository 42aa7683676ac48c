/-
  No cell of these rows narrows 'for every input' (looked for: loops, veiled, ifaces, maps, wideKeys, modest, calm, conditions, laid).
  DERIVED. THE GIVEN ROWS OF THIS SEAT. 3 by the template 'for every input the law returns true; each argument reads behind the call as it read before'; 0 by the template 'total and deterministic' (their statements: YthjnhjpfhhnnlaaTotals.lean).
  GIVEN WITH THE SEED: the statements are not yours to turn. If you find one false, say at which input.
  Laid BY PROGRAM, IN A SANDBOX (cutbox-rows.mjs): the forced cells as the released guide's own fill.sh prints them over the translation 2298c58cc54a0c74… (all of the seat's roots in one cut). By AI agents, Wed Nov 11 2026. No macro, syntax, notation, axiom, sorry.
-/
import Derived.Test.YthjnhjpfhhnnlaaChecked
import GoSem.Claim
import GoSem.ClaimJoined
import GoSem.ClaimMapViews
import Derived.JoinedTies
import Derived.KernelRfl
namespace Go.Proofs.Ythjnhjpfhhnnlaa
/- THE CELL 'sum', in the pinned program and in every row, IS THE sha256 OF THE DUMP (.gsa) THAT YthjnhjpfhhnnlaaProg.lean LOADS. Nothing in Lean hashes anything: it is a label: what it is worth is what the hold of that sum in a sandbox is worth. -/
noncomputable def Try.pinned : Pinned := { name := "ythjnhjpfhhnnlaa", sum := "2298c58cc54a0c749fdd6043951d7673708b07c832a59ff52e8d750bf400f901", checked := Try.checked }
namespace Rows
def none {H : Type} : Left H := { results := [], args := [] }

/-- 'laws.FnExactDropAll': WHATEVER THE INPUT: true; the input reads as it did. -/
def fnExactDropAllSpec : ChangeSpec := { name := "fnExactDropAll", fn := fun _ => fun
  | [d1, d2] => { results := [.lit (.bool true)], args := [d1, d2] }
  | _ => none }
def fnExactDropAllRow : OpenClaim := { program := "ythjnhjpfhhnnlaa", sum := "2298c58cc54a0c749fdd6043951d7673708b07c832a59ff52e8d750bf400f901", func := "loop.example/opentables/laws.FnExactDropAll", spec := "fnExactDropAll", inPlace := ["internal/reflectlite.TypeOf"], unfollowed := true, recurses := true, apart := false }
def FnExactDropAllSaid : Prop := fnExactDropAllRow.holds Try.pinned (OpenSpec.ofChange fnExactDropAllSpec)

/-- ITS FALSE NEIGHBOUR: 'it returns false'. Refute it at one input. -/
def fnExactDropAllWrong : ChangeSpec := { name := "fnExactDropAll", fn := fun _ => fun
  | [d1, d2] => { results := [.lit (.bool false)], args := [d1, d2] }
  | _ => none }
def FnExactDropAllWrongFalsely : Prop := fnExactDropAllRow.holds Try.pinned (OpenSpec.ofChange fnExactDropAllWrong)

/-- 'laws.FnExactCleanTable': WHATEVER THE INPUT: true; the input reads as it did. -/
def fnExactCleanTableSpec : ChangeSpec := { name := "fnExactCleanTable", fn := fun _ => fun
  | [d] => { results := [.lit (.bool true)], args := [d] }
  | _ => none }
def fnExactCleanTableRow : OpenClaim := { program := "ythjnhjpfhhnnlaa", sum := "2298c58cc54a0c749fdd6043951d7673708b07c832a59ff52e8d750bf400f901", func := "loop.example/opentables/laws.FnExactCleanTable", spec := "fnExactCleanTable", inPlace := ["internal/reflectlite.TypeOf"], unfollowed := true, recurses := true, apart := false }
def FnExactCleanTableSaid : Prop := fnExactCleanTableRow.holds Try.pinned (OpenSpec.ofChange fnExactCleanTableSpec)

/-- ITS FALSE NEIGHBOUR: 'it returns false'. Refute it at one input. -/
def fnExactCleanTableWrong : ChangeSpec := { name := "fnExactCleanTable", fn := fun _ => fun
  | [d] => { results := [.lit (.bool false)], args := [d] }
  | _ => none }
def FnExactCleanTableWrongFalsely : Prop := fnExactCleanTableRow.holds Try.pinned (OpenSpec.ofChange fnExactCleanTableWrong)

/-- 'laws.FnExactFewestTombs': WHATEVER THE INPUT: true; the input reads as it did. -/
def fnExactFewestTombsSpec : ChangeSpec := { name := "fnExactFewestTombs", fn := fun _ => fun
  | [d] => { results := [.lit (.bool true)], args := [d] }
  | _ => none }
def fnExactFewestTombsRow : OpenClaim := { program := "ythjnhjpfhhnnlaa", sum := "2298c58cc54a0c749fdd6043951d7673708b07c832a59ff52e8d750bf400f901", func := "loop.example/opentables/laws.FnExactFewestTombs", spec := "fnExactFewestTombs", inPlace := ["internal/reflectlite.TypeOf"], unfollowed := true, recurses := true, apart := false }
def FnExactFewestTombsSaid : Prop := fnExactFewestTombsRow.holds Try.pinned (OpenSpec.ofChange fnExactFewestTombsSpec)

/-- ITS FALSE NEIGHBOUR: 'it returns false'. Refute it at one input. -/
def fnExactFewestTombsWrong : ChangeSpec := { name := "fnExactFewestTombs", fn := fun _ => fun
  | [d] => { results := [.lit (.bool false)], args := [d] }
  | _ => none }
def FnExactFewestTombsWrongFalsely : Prop := fnExactFewestTombsRow.holds Try.pinned (OpenSpec.ofChange fnExactFewestTombsWrong)

/- THE SECOND FORM. 'bulk': how many values and letters a reading holds, each counted each time it is reached (what is shared counts as often as it is met; a slice's spare places count too). A statement '..UptoSaid' is the law's where the arguments, and the package variables that the reading takes, are together of bulk at most 1048576: NARROWER than '..Said'. Prove '..Said' where nothing that the law and all that it calls make is longer than what came in: it says more and counts as full. Else prove '..UptoSaid'. A law counts once. -/
mutual
def uptoBulk {H : Type} : DataW H → Nat
  | .lit (.string bytes) => bytes.length + 1
  | .lit _ => 1
  | .nil => 1
  | .ptr d => uptoBulk d + 1
  | .slice elems spare => uptoBulkAll elems + uptoBulkAll spare + 1
  | .agg parts => uptoBulkAll parts + 1
  | .iface _ d => uptoBulk d + 1
  | .map entries => uptoBulkEntries entries + 1
  | .held _ => 1
def uptoBulkAll {H : Type} : List (DataW H) → Nat
  | [] => 0
  | d :: r => uptoBulk d + uptoBulkAll r
def uptoBulkEntries {H : Type} : List (Lit × DataW H) → Nat
  | [] => 0
  | x :: r => uptoBulkEntry x + uptoBulkEntries r
def uptoBulkEntry {H : Type} : Lit × DataW H → Nat
  | (.string bytes, d) => bytes.length + uptoBulk d + 1
  | (_, d) => uptoBulk d + 1
 end
def uptoSmall : (H : Type) → List (DataW H) → Bool := fun _ ds => decide (uptoBulkAll ds ≤ 1048576)
def OpenSpec.upto (s : _root_.Go.ChangeSpec) : _root_.Go.OpenSpec := { _root_.Go.OpenSpec.ofChange s with cond := some uptoSmall }

/-- 'laws.FnExactDropAll', WHERE WHAT IT READS IS OF BULK AT MOST 1048576: true; the input reads as it did. -/
def fnExactDropAllUptoRow : OpenClaim := { program := "ythjnhjpfhhnnlaa", sum := "2298c58cc54a0c749fdd6043951d7673708b07c832a59ff52e8d750bf400f901", func := "loop.example/opentables/laws.FnExactDropAll", spec := "fnExactDropAll", inPlace := ["internal/reflectlite.TypeOf"], unfollowed := true, recurses := true, apart := false, narrowed := true }
def FnExactDropAllUptoSaid : Prop := fnExactDropAllUptoRow.holds Try.pinned (OpenSpec.upto fnExactDropAllSpec)

/-- 'laws.FnExactCleanTable', WHERE WHAT IT READS IS OF BULK AT MOST 1048576: true; the input reads as it did. -/
def fnExactCleanTableUptoRow : OpenClaim := { program := "ythjnhjpfhhnnlaa", sum := "2298c58cc54a0c749fdd6043951d7673708b07c832a59ff52e8d750bf400f901", func := "loop.example/opentables/laws.FnExactCleanTable", spec := "fnExactCleanTable", inPlace := ["internal/reflectlite.TypeOf"], unfollowed := true, recurses := true, apart := false, narrowed := true }
def FnExactCleanTableUptoSaid : Prop := fnExactCleanTableUptoRow.holds Try.pinned (OpenSpec.upto fnExactCleanTableSpec)

/-- 'laws.FnExactFewestTombs', WHERE WHAT IT READS IS OF BULK AT MOST 1048576: true; the input reads as it did. -/
def fnExactFewestTombsUptoRow : OpenClaim := { program := "ythjnhjpfhhnnlaa", sum := "2298c58cc54a0c749fdd6043951d7673708b07c832a59ff52e8d750bf400f901", func := "loop.example/opentables/laws.FnExactFewestTombs", spec := "fnExactFewestTombs", inPlace := ["internal/reflectlite.TypeOf"], unfollowed := true, recurses := true, apart := false, narrowed := true }
def FnExactFewestTombsUptoSaid : Prop := fnExactFewestTombsUptoRow.holds Try.pinned (OpenSpec.upto fnExactFewestTombsSpec)

end Rows
end Go.Proofs.Ythjnhjpfhhnnlaa

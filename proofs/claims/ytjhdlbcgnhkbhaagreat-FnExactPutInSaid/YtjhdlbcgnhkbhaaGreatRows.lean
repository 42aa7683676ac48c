/-
  No cell of these rows narrows 'for every input' (looked for: loops, veiled, ifaces, maps, wideKeys, modest, calm, conditions, laid).
  DERIVED. THE GIVEN ROWS OF THIS SEAT. 4 by the template 'for every input the law returns true; each argument reads behind the call as it read before'; 0 by the template 'total and deterministic' (their statements: YtjhdlbcgnhkbhaaGreatTotals.lean).
  GIVEN WITH THE SEED: the statements are not yours to turn. If you find one false, say at which input.
  Laid BY PROGRAM, IN A SANDBOX (cutbox-rows.mjs): the forced cells as the released guide's own fill.sh prints them over the translation 7b464fb727e426d0… (all of the seat's roots in one cut). By AI agents, Wed Nov 11 2026. No macro, syntax, notation, axiom, sorry.
-/
import Derived.Test.YtjhdlbcgnhkbhaaGreatChecked
import GoSem.Claim
import GoSem.ClaimJoined
import GoSem.ClaimMapViews
import Derived.JoinedTies
import Derived.KernelRfl
namespace Go.Proofs.YtjhdlbcgnhkbhaaGreat
/- THE CELL 'sum', in the pinned program and in every row, IS THE sha256 OF THE DUMP (.gsa) THAT YtjhdlbcgnhkbhaaGreatProg.lean LOADS. Nothing in Lean hashes anything: it is a label: what it is worth is what the hold of that sum in a sandbox is worth. -/
noncomputable def Tryz.pinned : Pinned := { name := "ytjhdlbcgnhkbhaagreat", sum := "7b464fb727e426d00c1afbe16329ba5b30cae6a03589b01e67ce5c745c205f9c", checked := Tryz.checked }
namespace Rows
def none {H : Type} : Left H := { results := [], args := [] }

/-- 'laws.FnExactStartMove': WHATEVER THE INPUT: true; the input reads as it did. -/
def fnExactStartMoveSpec : ChangeSpec := { name := "fnExactStartMove", fn := fun _ => fun
  | [d1, d2] => { results := [.lit (.bool true)], args := [d1, d2] }
  | _ => none }
def fnExactStartMoveRow : OpenClaim := { program := "ytjhdlbcgnhkbhaagreat", sum := "7b464fb727e426d00c1afbe16329ba5b30cae6a03589b01e67ce5c745c205f9c", func := "loop.example/opentables/laws.FnExactStartMove", spec := "fnExactStartMove", inPlace := ["internal/reflectlite.TypeOf"], unfollowed := true, recurses := true, leaving := true, apart := false }
def FnExactStartMoveSaid : Prop := fnExactStartMoveRow.holds Tryz.pinned (OpenSpec.ofChange fnExactStartMoveSpec)

/-- ITS FALSE NEIGHBOUR: 'it returns false'. Refute it at one input. -/
def fnExactStartMoveWrong : ChangeSpec := { name := "fnExactStartMove", fn := fun _ => fun
  | [d1, d2] => { results := [.lit (.bool false)], args := [d1, d2] }
  | _ => none }
def FnExactStartMoveWrongFalsely : Prop := fnExactStartMoveRow.holds Tryz.pinned (OpenSpec.ofChange fnExactStartMoveWrong)

/-- 'laws.FnExactStepMove': WHATEVER THE INPUT: true; the input reads as it did. -/
def fnExactStepMoveSpec : ChangeSpec := { name := "fnExactStepMove", fn := fun _ => fun
  | [d] => { results := [.lit (.bool true)], args := [d] }
  | _ => none }
def fnExactStepMoveRow : OpenClaim := { program := "ytjhdlbcgnhkbhaagreat", sum := "7b464fb727e426d00c1afbe16329ba5b30cae6a03589b01e67ce5c745c205f9c", func := "loop.example/opentables/laws.FnExactStepMove", spec := "fnExactStepMove", inPlace := ["internal/reflectlite.TypeOf"], unfollowed := true, recurses := true, leaving := true, apart := false }
def FnExactStepMoveSaid : Prop := fnExactStepMoveRow.holds Tryz.pinned (OpenSpec.ofChange fnExactStepMoveSpec)

/-- ITS FALSE NEIGHBOUR: 'it returns false'. Refute it at one input. -/
def fnExactStepMoveWrong : ChangeSpec := { name := "fnExactStepMove", fn := fun _ => fun
  | [d] => { results := [.lit (.bool false)], args := [d] }
  | _ => none }
def FnExactStepMoveWrongFalsely : Prop := fnExactStepMoveRow.holds Tryz.pinned (OpenSpec.ofChange fnExactStepMoveWrong)

/-- 'laws.FnExactPutIn': WHATEVER THE INPUT: true; the input reads as it did. -/
def fnExactPutInSpec : ChangeSpec := { name := "fnExactPutIn", fn := fun _ => fun
  | [d1, d2] => { results := [.lit (.bool true)], args := [d1, d2] }
  | _ => none }
def fnExactPutInRow : OpenClaim := { program := "ytjhdlbcgnhkbhaagreat", sum := "7b464fb727e426d00c1afbe16329ba5b30cae6a03589b01e67ce5c745c205f9c", func := "loop.example/opentables/laws.FnExactPutIn", spec := "fnExactPutIn", inPlace := ["internal/reflectlite.TypeOf"], unfollowed := true, recurses := true, leaving := true, apart := false }
def FnExactPutInSaid : Prop := fnExactPutInRow.holds Tryz.pinned (OpenSpec.ofChange fnExactPutInSpec)

/-- ITS FALSE NEIGHBOUR: 'it returns false'. Refute it at one input. -/
def fnExactPutInWrong : ChangeSpec := { name := "fnExactPutIn", fn := fun _ => fun
  | [d1, d2] => { results := [.lit (.bool false)], args := [d1, d2] }
  | _ => none }
def FnExactPutInWrongFalsely : Prop := fnExactPutInRow.holds Tryz.pinned (OpenSpec.ofChange fnExactPutInWrong)

/-- 'laws.FnExactEndMove': WHATEVER THE INPUT: true; the input reads as it did. -/
def fnExactEndMoveSpec : ChangeSpec := { name := "fnExactEndMove", fn := fun _ => fun
  | [d] => { results := [.lit (.bool true)], args := [d] }
  | _ => none }
def fnExactEndMoveRow : OpenClaim := { program := "ytjhdlbcgnhkbhaagreat", sum := "7b464fb727e426d00c1afbe16329ba5b30cae6a03589b01e67ce5c745c205f9c", func := "loop.example/opentables/laws.FnExactEndMove", spec := "fnExactEndMove", inPlace := ["internal/reflectlite.TypeOf"], unfollowed := true, recurses := true, leaving := true, apart := false }
def FnExactEndMoveSaid : Prop := fnExactEndMoveRow.holds Tryz.pinned (OpenSpec.ofChange fnExactEndMoveSpec)

/-- ITS FALSE NEIGHBOUR: 'it returns false'. Refute it at one input. -/
def fnExactEndMoveWrong : ChangeSpec := { name := "fnExactEndMove", fn := fun _ => fun
  | [d] => { results := [.lit (.bool false)], args := [d] }
  | _ => none }
def FnExactEndMoveWrongFalsely : Prop := fnExactEndMoveRow.holds Tryz.pinned (OpenSpec.ofChange fnExactEndMoveWrong)

/- THE SECOND FORM. 'bulk': how many values and letters a reading holds, each counted each time it is reached (what is shared counts as often as it is met; a slice's spare places count too). A statement '..UptoSaid' is the law's where the arguments, and the package variables that the reading takes, are together of bulk at most 1048576: NARROWER than '..Said'. Prove '..Said' where nothing that the law and all that it calls make is longer than what came in: it says more and counts as full. Else prove '..UptoSaid'. A law counts once. -/
mutual
def uptoBulk {H : Type} : DataW H → Nat
  | .lit (.string bytes) => bytes.length + 1
  | .lit _ => 1
  | .nil => 1
  | .ptr d => uptoBulk d + 1
  | .slice elems spare => uptoBulkAll elems + uptoBulkAll spare + 1
  | .agg parts => uptoBulkAll parts + 1
  | .iface _ d => uptoBulk d + 1
  | .map entries => uptoBulkEntries entries + 1
  | .held _ => 1
def uptoBulkAll {H : Type} : List (DataW H) → Nat
  | [] => 0
  | d :: r => uptoBulk d + uptoBulkAll r
def uptoBulkEntries {H : Type} : List (Lit × DataW H) → Nat
  | [] => 0
  | x :: r => uptoBulkEntry x + uptoBulkEntries r
def uptoBulkEntry {H : Type} : Lit × DataW H → Nat
  | (.string bytes, d) => bytes.length + uptoBulk d + 1
  | (_, d) => uptoBulk d + 1
 end
def uptoSmall : (H : Type) → List (DataW H) → Bool := fun _ ds => decide (uptoBulkAll ds ≤ 1048576)
def OpenSpec.upto (s : _root_.Go.ChangeSpec) : _root_.Go.OpenSpec := { _root_.Go.OpenSpec.ofChange s with cond := some uptoSmall }

/-- 'laws.FnExactStartMove', WHERE WHAT IT READS IS OF BULK AT MOST 1048576: true; the input reads as it did. -/
def fnExactStartMoveUptoRow : OpenClaim := { program := "ytjhdlbcgnhkbhaagreat", sum := "7b464fb727e426d00c1afbe16329ba5b30cae6a03589b01e67ce5c745c205f9c", func := "loop.example/opentables/laws.FnExactStartMove", spec := "fnExactStartMove", inPlace := ["internal/reflectlite.TypeOf"], unfollowed := true, recurses := true, leaving := true, apart := false, narrowed := true }
def FnExactStartMoveUptoSaid : Prop := fnExactStartMoveUptoRow.holds Tryz.pinned (OpenSpec.upto fnExactStartMoveSpec)

/-- 'laws.FnExactStepMove', WHERE WHAT IT READS IS OF BULK AT MOST 1048576: true; the input reads as it did. -/
def fnExactStepMoveUptoRow : OpenClaim := { program := "ytjhdlbcgnhkbhaagreat", sum := "7b464fb727e426d00c1afbe16329ba5b30cae6a03589b01e67ce5c745c205f9c", func := "loop.example/opentables/laws.FnExactStepMove", spec := "fnExactStepMove", inPlace := ["internal/reflectlite.TypeOf"], unfollowed := true, recurses := true, leaving := true, apart := false, narrowed := true }
def FnExactStepMoveUptoSaid : Prop := fnExactStepMoveUptoRow.holds Tryz.pinned (OpenSpec.upto fnExactStepMoveSpec)

/-- 'laws.FnExactPutIn', WHERE WHAT IT READS IS OF BULK AT MOST 1048576: true; the input reads as it did. -/
def fnExactPutInUptoRow : OpenClaim := { program := "ytjhdlbcgnhkbhaagreat", sum := "7b464fb727e426d00c1afbe16329ba5b30cae6a03589b01e67ce5c745c205f9c", func := "loop.example/opentables/laws.FnExactPutIn", spec := "fnExactPutIn", inPlace := ["internal/reflectlite.TypeOf"], unfollowed := true, recurses := true, leaving := true, apart := false, narrowed := true }
def FnExactPutInUptoSaid : Prop := fnExactPutInUptoRow.holds Tryz.pinned (OpenSpec.upto fnExactPutInSpec)

/-- 'laws.FnExactEndMove', WHERE WHAT IT READS IS OF BULK AT MOST 1048576: true; the input reads as it did. -/
def fnExactEndMoveUptoRow : OpenClaim := { program := "ytjhdlbcgnhkbhaagreat", sum := "7b464fb727e426d00c1afbe16329ba5b30cae6a03589b01e67ce5c745c205f9c", func := "loop.example/opentables/laws.FnExactEndMove", spec := "fnExactEndMove", inPlace := ["internal/reflectlite.TypeOf"], unfollowed := true, recurses := true, leaving := true, apart := false, narrowed := true }
def FnExactEndMoveUptoSaid : Prop := fnExactEndMoveUptoRow.holds Tryz.pinned (OpenSpec.upto fnExactEndMoveSpec)

end Rows
end Go.Proofs.YtjhdlbcgnhkbhaaGreat

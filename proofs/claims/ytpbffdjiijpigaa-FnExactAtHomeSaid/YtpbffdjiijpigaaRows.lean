/-
  No cell of these rows narrows 'for every input' (looked for: loops, veiled, ifaces, maps, wideKeys, modest, calm, conditions, laid).
  DERIVED. THE GIVEN ROWS OF THIS SEAT. 7 by the template 'for every input the law returns true; each argument reads behind the call as it read before'; 0 by the template 'total and deterministic' (their statements: YtpbffdjiijpigaaTotals.lean).
  GIVEN WITH THE SEED: the statements are not yours to turn. If you find one false, say at which input.
  Laid BY PROGRAM, IN A SANDBOX (cutbox-rows.mjs): the forced cells as the released guide's own fill.sh prints them over the translation 1a18e87d69905068… (all of the seat's roots in one cut). By AI agents, Wed Nov 11 2026. No macro, syntax, notation, axiom, sorry.
-/
import Derived.Test.YtpbffdjiijpigaaChecked
import GoSem.Claim
import GoSem.ClaimJoined
import GoSem.ClaimMapViews
import Derived.JoinedTies
import Derived.KernelRfl
namespace Go.Proofs.Ytpbffdjiijpigaa
/- THE CELL 'sum', in the pinned program and in every row, IS THE sha256 OF THE DUMP (.gsa) THAT YtpbffdjiijpigaaProg.lean LOADS. Nothing in Lean hashes anything: it is a label: what it is worth is what the hold of that sum in a sandbox is worth. -/
noncomputable def Try.pinned : Pinned := { name := "ytpbffdjiijpigaa", sum := "1a18e87d69905068bd63686113882c329e506f0bf6cef42eba2057095185a899", checked := Try.checked }
namespace Rows
def none {H : Type} : Left H := { results := [], args := [] }

/-- 'laws.FnExactRunsOf': WHATEVER THE INPUT: true; the input reads as it did. -/
def fnExactRunsOfSpec : ChangeSpec := { name := "fnExactRunsOf", fn := fun _ => fun
  | [d] => { results := [.lit (.bool true)], args := [d] }
  | _ => none }
def fnExactRunsOfRow : OpenClaim := { program := "ytpbffdjiijpigaa", sum := "1a18e87d69905068bd63686113882c329e506f0bf6cef42eba2057095185a899", func := "loop.example/opentables/laws.FnExactRunsOf", spec := "fnExactRunsOf", unfollowed := true, recurses := true, apart := false }
def FnExactRunsOfSaid : Prop := fnExactRunsOfRow.holds Try.pinned (OpenSpec.ofChange fnExactRunsOfSpec)

/-- ITS FALSE NEIGHBOUR: 'it returns false'. Refute it at one input. -/
def fnExactRunsOfWrong : ChangeSpec := { name := "fnExactRunsOf", fn := fun _ => fun
  | [d] => { results := [.lit (.bool false)], args := [d] }
  | _ => none }
def FnExactRunsOfWrongFalsely : Prop := fnExactRunsOfRow.holds Try.pinned (OpenSpec.ofChange fnExactRunsOfWrong)

/-- 'laws.FnExactRunAt': WHATEVER THE INPUT: true; the input reads as it did. -/
def fnExactRunAtSpec : ChangeSpec := { name := "fnExactRunAt", fn := fun _ => fun
  | [d1, d2] => { results := [.lit (.bool true)], args := [d1, d2] }
  | _ => none }
def fnExactRunAtRow : OpenClaim := { program := "ytpbffdjiijpigaa", sum := "1a18e87d69905068bd63686113882c329e506f0bf6cef42eba2057095185a899", func := "loop.example/opentables/laws.FnExactRunAt", spec := "fnExactRunAt", unfollowed := true, recurses := true, apart := false }
def FnExactRunAtSaid : Prop := fnExactRunAtRow.holds Try.pinned (OpenSpec.ofChange fnExactRunAtSpec)

/-- ITS FALSE NEIGHBOUR: 'it returns false'. Refute it at one input. -/
def fnExactRunAtWrong : ChangeSpec := { name := "fnExactRunAt", fn := fun _ => fun
  | [d1, d2] => { results := [.lit (.bool false)], args := [d1, d2] }
  | _ => none }
def FnExactRunAtWrongFalsely : Prop := fnExactRunAtRow.holds Try.pinned (OpenSpec.ofChange fnExactRunAtWrong)

/-- 'laws.FnRuns': WHATEVER THE INPUT: true; the input reads as it did. -/
def fnRunsSpec : ChangeSpec := { name := "fnRuns", fn := fun _ => fun
  | [d] => { results := [.lit (.bool true)], args := [d] }
  | _ => none }
def fnRunsRow : OpenClaim := { program := "ytpbffdjiijpigaa", sum := "1a18e87d69905068bd63686113882c329e506f0bf6cef42eba2057095185a899", func := "loop.example/opentables/laws.FnRuns", spec := "fnRuns", unfollowed := true, recurses := true, apart := false }
def FnRunsSaid : Prop := fnRunsRow.holds Try.pinned (OpenSpec.ofChange fnRunsSpec)

/-- ITS FALSE NEIGHBOUR: 'it returns false'. Refute it at one input. -/
def fnRunsWrong : ChangeSpec := { name := "fnRuns", fn := fun _ => fun
  | [d] => { results := [.lit (.bool false)], args := [d] }
  | _ => none }
def FnRunsWrongFalsely : Prop := fnRunsRow.holds Try.pinned (OpenSpec.ofChange fnRunsWrong)

/-- 'laws.FnRunAt': WHATEVER THE INPUT: true; the input reads as it did. -/
def fnRunAtSpec : ChangeSpec := { name := "fnRunAt", fn := fun _ => fun
  | [d] => { results := [.lit (.bool true)], args := [d] }
  | _ => none }
def fnRunAtRow : OpenClaim := { program := "ytpbffdjiijpigaa", sum := "1a18e87d69905068bd63686113882c329e506f0bf6cef42eba2057095185a899", func := "loop.example/opentables/laws.FnRunAt", spec := "fnRunAt", unfollowed := true, recurses := true, apart := false }
def FnRunAtSaid : Prop := fnRunAtRow.holds Try.pinned (OpenSpec.ofChange fnRunAtSpec)

/-- ITS FALSE NEIGHBOUR: 'it returns false'. Refute it at one input. -/
def fnRunAtWrong : ChangeSpec := { name := "fnRunAt", fn := fun _ => fun
  | [d] => { results := [.lit (.bool false)], args := [d] }
  | _ => none }
def FnRunAtWrongFalsely : Prop := fnRunAtRow.holds Try.pinned (OpenSpec.ofChange fnRunAtWrong)

/-- 'laws.FnFreeSlots': WHATEVER THE INPUT: true; the input reads as it did. -/
def fnFreeSlotsSpec : ChangeSpec := { name := "fnFreeSlots", fn := fun _ => fun
  | [d] => { results := [.lit (.bool true)], args := [d] }
  | _ => none }
def fnFreeSlotsRow : OpenClaim := { program := "ytpbffdjiijpigaa", sum := "1a18e87d69905068bd63686113882c329e506f0bf6cef42eba2057095185a899", func := "loop.example/opentables/laws.FnFreeSlots", spec := "fnFreeSlots", inPlace := ["internal/reflectlite.TypeOf"], unfollowed := true, recurses := true, apart := false }
def FnFreeSlotsSaid : Prop := fnFreeSlotsRow.holds Try.pinned (OpenSpec.ofChange fnFreeSlotsSpec)

/-- ITS FALSE NEIGHBOUR: 'it returns false'. Refute it at one input. -/
def fnFreeSlotsWrong : ChangeSpec := { name := "fnFreeSlots", fn := fun _ => fun
  | [d] => { results := [.lit (.bool false)], args := [d] }
  | _ => none }
def FnFreeSlotsWrongFalsely : Prop := fnFreeSlotsRow.holds Try.pinned (OpenSpec.ofChange fnFreeSlotsWrong)

/-- 'laws.FnVisitsBound': WHATEVER THE INPUT: true; the input reads as it did. -/
def fnVisitsBoundSpec : ChangeSpec := { name := "fnVisitsBound", fn := fun _ => fun
  | [d] => { results := [.lit (.bool true)], args := [d] }
  | _ => none }
def fnVisitsBoundRow : OpenClaim := { program := "ytpbffdjiijpigaa", sum := "1a18e87d69905068bd63686113882c329e506f0bf6cef42eba2057095185a899", func := "loop.example/opentables/laws.FnVisitsBound", spec := "fnVisitsBound", unfollowed := true, recurses := true, apart := false }
def FnVisitsBoundSaid : Prop := fnVisitsBoundRow.holds Try.pinned (OpenSpec.ofChange fnVisitsBoundSpec)

/-- ITS FALSE NEIGHBOUR: 'it returns false'. Refute it at one input. -/
def fnVisitsBoundWrong : ChangeSpec := { name := "fnVisitsBound", fn := fun _ => fun
  | [d] => { results := [.lit (.bool false)], args := [d] }
  | _ => none }
def FnVisitsBoundWrongFalsely : Prop := fnVisitsBoundRow.holds Try.pinned (OpenSpec.ofChange fnVisitsBoundWrong)

/-- 'laws.FnExactAtHome': WHATEVER THE INPUT: true; the input reads as it did. -/
def fnExactAtHomeSpec : ChangeSpec := { name := "fnExactAtHome", fn := fun _ => fun
  | [d] => { results := [.lit (.bool true)], args := [d] }
  | _ => none }
def fnExactAtHomeRow : OpenClaim := { program := "ytpbffdjiijpigaa", sum := "1a18e87d69905068bd63686113882c329e506f0bf6cef42eba2057095185a899", func := "loop.example/opentables/laws.FnExactAtHome", spec := "fnExactAtHome", recurses := true, apart := false }
def FnExactAtHomeSaid : Prop := fnExactAtHomeRow.holds Try.pinned (OpenSpec.ofChange fnExactAtHomeSpec)

/-- ITS FALSE NEIGHBOUR: 'it returns false'. Refute it at one input. -/
def fnExactAtHomeWrong : ChangeSpec := { name := "fnExactAtHome", fn := fun _ => fun
  | [d] => { results := [.lit (.bool false)], args := [d] }
  | _ => none }
def FnExactAtHomeWrongFalsely : Prop := fnExactAtHomeRow.holds Try.pinned (OpenSpec.ofChange fnExactAtHomeWrong)

/- THE SECOND FORM. 'bulk': how many values and letters a reading holds, each counted each time it is reached (what is shared counts as often as it is met; a slice's spare places count too). A statement '..UptoSaid' is the law's where the arguments, and the package variables that the reading takes, are together of bulk at most 1048576: NARROWER than '..Said'. Prove '..Said' where nothing that the law and all that it calls make is longer than what came in: it says more and counts as full. Else prove '..UptoSaid'. A law counts once. -/
mutual
def uptoBulk {H : Type} : DataW H → Nat
  | .lit (.string bytes) => bytes.length + 1
  | .lit _ => 1
  | .nil => 1
  | .ptr d => uptoBulk d + 1
  | .slice elems spare => uptoBulkAll elems + uptoBulkAll spare + 1
  | .agg parts => uptoBulkAll parts + 1
  | .iface _ d => uptoBulk d + 1
  | .map entries => uptoBulkEntries entries + 1
  | .held _ => 1
def uptoBulkAll {H : Type} : List (DataW H) → Nat
  | [] => 0
  | d :: r => uptoBulk d + uptoBulkAll r
def uptoBulkEntries {H : Type} : List (Lit × DataW H) → Nat
  | [] => 0
  | x :: r => uptoBulkEntry x + uptoBulkEntries r
def uptoBulkEntry {H : Type} : Lit × DataW H → Nat
  | (.string bytes, d) => bytes.length + uptoBulk d + 1
  | (_, d) => uptoBulk d + 1
 end
def uptoSmall : (H : Type) → List (DataW H) → Bool := fun _ ds => decide (uptoBulkAll ds ≤ 1048576)
def OpenSpec.upto (s : _root_.Go.ChangeSpec) : _root_.Go.OpenSpec := { _root_.Go.OpenSpec.ofChange s with cond := some uptoSmall }

/-- 'laws.FnExactRunsOf', WHERE WHAT IT READS IS OF BULK AT MOST 1048576: true; the input reads as it did. -/
def fnExactRunsOfUptoRow : OpenClaim := { program := "ytpbffdjiijpigaa", sum := "1a18e87d69905068bd63686113882c329e506f0bf6cef42eba2057095185a899", func := "loop.example/opentables/laws.FnExactRunsOf", spec := "fnExactRunsOf", unfollowed := true, recurses := true, apart := false, narrowed := true }
def FnExactRunsOfUptoSaid : Prop := fnExactRunsOfUptoRow.holds Try.pinned (OpenSpec.upto fnExactRunsOfSpec)

/-- 'laws.FnExactRunAt', WHERE WHAT IT READS IS OF BULK AT MOST 1048576: true; the input reads as it did. -/
def fnExactRunAtUptoRow : OpenClaim := { program := "ytpbffdjiijpigaa", sum := "1a18e87d69905068bd63686113882c329e506f0bf6cef42eba2057095185a899", func := "loop.example/opentables/laws.FnExactRunAt", spec := "fnExactRunAt", unfollowed := true, recurses := true, apart := false, narrowed := true }
def FnExactRunAtUptoSaid : Prop := fnExactRunAtUptoRow.holds Try.pinned (OpenSpec.upto fnExactRunAtSpec)

/-- 'laws.FnRuns', WHERE WHAT IT READS IS OF BULK AT MOST 1048576: true; the input reads as it did. -/
def fnRunsUptoRow : OpenClaim := { program := "ytpbffdjiijpigaa", sum := "1a18e87d69905068bd63686113882c329e506f0bf6cef42eba2057095185a899", func := "loop.example/opentables/laws.FnRuns", spec := "fnRuns", unfollowed := true, recurses := true, apart := false, narrowed := true }
def FnRunsUptoSaid : Prop := fnRunsUptoRow.holds Try.pinned (OpenSpec.upto fnRunsSpec)

/-- 'laws.FnRunAt', WHERE WHAT IT READS IS OF BULK AT MOST 1048576: true; the input reads as it did. -/
def fnRunAtUptoRow : OpenClaim := { program := "ytpbffdjiijpigaa", sum := "1a18e87d69905068bd63686113882c329e506f0bf6cef42eba2057095185a899", func := "loop.example/opentables/laws.FnRunAt", spec := "fnRunAt", unfollowed := true, recurses := true, apart := false, narrowed := true }
def FnRunAtUptoSaid : Prop := fnRunAtUptoRow.holds Try.pinned (OpenSpec.upto fnRunAtSpec)

/-- 'laws.FnFreeSlots', WHERE WHAT IT READS IS OF BULK AT MOST 1048576: true; the input reads as it did. -/
def fnFreeSlotsUptoRow : OpenClaim := { program := "ytpbffdjiijpigaa", sum := "1a18e87d69905068bd63686113882c329e506f0bf6cef42eba2057095185a899", func := "loop.example/opentables/laws.FnFreeSlots", spec := "fnFreeSlots", inPlace := ["internal/reflectlite.TypeOf"], unfollowed := true, recurses := true, apart := false, narrowed := true }
def FnFreeSlotsUptoSaid : Prop := fnFreeSlotsUptoRow.holds Try.pinned (OpenSpec.upto fnFreeSlotsSpec)

/-- 'laws.FnVisitsBound', WHERE WHAT IT READS IS OF BULK AT MOST 1048576: true; the input reads as it did. -/
def fnVisitsBoundUptoRow : OpenClaim := { program := "ytpbffdjiijpigaa", sum := "1a18e87d69905068bd63686113882c329e506f0bf6cef42eba2057095185a899", func := "loop.example/opentables/laws.FnVisitsBound", spec := "fnVisitsBound", unfollowed := true, recurses := true, apart := false, narrowed := true }
def FnVisitsBoundUptoSaid : Prop := fnVisitsBoundUptoRow.holds Try.pinned (OpenSpec.upto fnVisitsBoundSpec)

/-- 'laws.FnExactAtHome', WHERE WHAT IT READS IS OF BULK AT MOST 1048576: true; the input reads as it did. -/
def fnExactAtHomeUptoRow : OpenClaim := { program := "ytpbffdjiijpigaa", sum := "1a18e87d69905068bd63686113882c329e506f0bf6cef42eba2057095185a899", func := "loop.example/opentables/laws.FnExactAtHome", spec := "fnExactAtHome", recurses := true, apart := false, narrowed := true }
def FnExactAtHomeUptoSaid : Prop := fnExactAtHomeUptoRow.holds Try.pinned (OpenSpec.upto fnExactAtHomeSpec)

end Rows
end Go.Proofs.Ytpbffdjiijpigaa

/-
  No cell of these rows narrows 'for every input' (looked for: loops, veiled, ifaces, maps, wideKeys, modest, calm, conditions, laid).
  DERIVED. THE GIVEN ROWS OF THIS SEAT. 7 by the template 'for every input the law returns true; each argument reads behind the call as it read before'; 0 by the template 'total and deterministic' (their statements: YtpncpeokdcolpaaTotals.lean).
  GIVEN WITH THE SEED: the statements are not yours to turn. If you find one false, say at which input.
  Laid BY PROGRAM, IN A SANDBOX (cutbox-rows.mjs): the forced cells as the released guide's own fill.sh prints them over the translation 0f5749d25d593258… (all of the seat's roots in one cut). By AI agents, Wed Nov 11 2026. No macro, syntax, notation, axiom, sorry.
-/
import Derived.Test.YtpncpeokdcolpaaChecked
import GoSem.Claim
import GoSem.ClaimJoined
import GoSem.ClaimMapViews
import Derived.JoinedTies
import Derived.KernelRfl
namespace Go.Proofs.Ytpncpeokdcolpaa
/- THE CELL 'sum', in the pinned program and in every row, IS THE sha256 OF THE DUMP (.gsa) THAT YtpncpeokdcolpaaProg.lean LOADS. Nothing in Lean hashes anything: it is a label: what it is worth is what the hold of that sum in a sandbox is worth. -/
noncomputable def Try.pinned : Pinned := { name := "ytpncpeokdcolpaa", sum := "0f5749d25d593258a047df23c3d85f7821dfae58cd2284613ce01646085c8520", checked := Try.checked }
namespace Rows
def none {H : Type} : Left H := { results := [], args := [] }

/-- 'laws.FnExactHitVisits': WHATEVER THE INPUT: true; the input reads as it did. -/
def fnExactHitVisitsSpec : ChangeSpec := { name := "fnExactHitVisits", fn := fun _ => fun
  | [d] => { results := [.lit (.bool true)], args := [d] }
  | _ => none }
def fnExactHitVisitsRow : OpenClaim := { program := "ytpncpeokdcolpaa", sum := "0f5749d25d593258a047df23c3d85f7821dfae58cd2284613ce01646085c8520", func := "loop.example/opentables/laws.FnExactHitVisits", spec := "fnExactHitVisits", inPlace := ["internal/reflectlite.TypeOf"], unfollowed := true, recurses := true, apart := false }
def FnExactHitVisitsSaid : Prop := fnExactHitVisitsRow.holds Try.pinned (OpenSpec.ofChange fnExactHitVisitsSpec)

/-- ITS FALSE NEIGHBOUR: 'it returns false'. Refute it at one input. -/
def fnExactHitVisitsWrong : ChangeSpec := { name := "fnExactHitVisits", fn := fun _ => fun
  | [d] => { results := [.lit (.bool false)], args := [d] }
  | _ => none }
def FnExactHitVisitsWrongFalsely : Prop := fnExactHitVisitsRow.holds Try.pinned (OpenSpec.ofChange fnExactHitVisitsWrong)

/-- 'laws.FnExactMissAt': WHATEVER THE INPUT: true; the input reads as it did. -/
def fnExactMissAtSpec : ChangeSpec := { name := "fnExactMissAt", fn := fun _ => fun
  | [d1, d2] => { results := [.lit (.bool true)], args := [d1, d2] }
  | _ => none }
def fnExactMissAtRow : OpenClaim := { program := "ytpncpeokdcolpaa", sum := "0f5749d25d593258a047df23c3d85f7821dfae58cd2284613ce01646085c8520", func := "loop.example/opentables/laws.FnExactMissAt", spec := "fnExactMissAt", unfollowed := true, recurses := true, apart := false }
def FnExactMissAtSaid : Prop := fnExactMissAtRow.holds Try.pinned (OpenSpec.ofChange fnExactMissAtSpec)

/-- ITS FALSE NEIGHBOUR: 'it returns false'. Refute it at one input. -/
def fnExactMissAtWrong : ChangeSpec := { name := "fnExactMissAt", fn := fun _ => fun
  | [d1, d2] => { results := [.lit (.bool false)], args := [d1, d2] }
  | _ => none }
def FnExactMissAtWrongFalsely : Prop := fnExactMissAtRow.holds Try.pinned (OpenSpec.ofChange fnExactMissAtWrong)

/-- 'laws.FnExactMissVisits': WHATEVER THE INPUT: true; the input reads as it did. -/
def fnExactMissVisitsSpec : ChangeSpec := { name := "fnExactMissVisits", fn := fun _ => fun
  | [d] => { results := [.lit (.bool true)], args := [d] }
  | _ => none }
def fnExactMissVisitsRow : OpenClaim := { program := "ytpncpeokdcolpaa", sum := "0f5749d25d593258a047df23c3d85f7821dfae58cd2284613ce01646085c8520", func := "loop.example/opentables/laws.FnExactMissVisits", spec := "fnExactMissVisits", unfollowed := true, recurses := true, apart := false }
def FnExactMissVisitsSaid : Prop := fnExactMissVisitsRow.holds Try.pinned (OpenSpec.ofChange fnExactMissVisitsSpec)

/-- ITS FALSE NEIGHBOUR: 'it returns false'. Refute it at one input. -/
def fnExactMissVisitsWrong : ChangeSpec := { name := "fnExactMissVisits", fn := fun _ => fun
  | [d] => { results := [.lit (.bool false)], args := [d] }
  | _ => none }
def FnExactMissVisitsWrongFalsely : Prop := fnExactMissVisitsRow.holds Try.pinned (OpenSpec.ofChange fnExactMissVisitsWrong)

/-- 'laws.FnExactWorstMiss': WHATEVER THE INPUT: true; the input reads as it did. -/
def fnExactWorstMissSpec : ChangeSpec := { name := "fnExactWorstMiss", fn := fun _ => fun
  | [d] => { results := [.lit (.bool true)], args := [d] }
  | _ => none }
def fnExactWorstMissRow : OpenClaim := { program := "ytpncpeokdcolpaa", sum := "0f5749d25d593258a047df23c3d85f7821dfae58cd2284613ce01646085c8520", func := "loop.example/opentables/laws.FnExactWorstMiss", spec := "fnExactWorstMiss", unfollowed := true, recurses := true, apart := false }
def FnExactWorstMissSaid : Prop := fnExactWorstMissRow.holds Try.pinned (OpenSpec.ofChange fnExactWorstMissSpec)

/-- ITS FALSE NEIGHBOUR: 'it returns false'. Refute it at one input. -/
def fnExactWorstMissWrong : ChangeSpec := { name := "fnExactWorstMiss", fn := fun _ => fun
  | [d] => { results := [.lit (.bool false)], args := [d] }
  | _ => none }
def FnExactWorstMissWrongFalsely : Prop := fnExactWorstMissRow.holds Try.pinned (OpenSpec.ofChange fnExactWorstMissWrong)

/-- 'laws.FnWorst': WHATEVER THE INPUT: true; the input reads as it did. -/
def fnWorstSpec : ChangeSpec := { name := "fnWorst", fn := fun _ => fun
  | [d] => { results := [.lit (.bool true)], args := [d] }
  | _ => none }
def fnWorstRow : OpenClaim := { program := "ytpncpeokdcolpaa", sum := "0f5749d25d593258a047df23c3d85f7821dfae58cd2284613ce01646085c8520", func := "loop.example/opentables/laws.FnWorst", spec := "fnWorst", unfollowed := true, recurses := true, apart := false }
def FnWorstSaid : Prop := fnWorstRow.holds Try.pinned (OpenSpec.ofChange fnWorstSpec)

/-- ITS FALSE NEIGHBOUR: 'it returns false'. Refute it at one input. -/
def fnWorstWrong : ChangeSpec := { name := "fnWorst", fn := fun _ => fun
  | [d] => { results := [.lit (.bool false)], args := [d] }
  | _ => none }
def FnWorstWrongFalsely : Prop := fnWorstRow.holds Try.pinned (OpenSpec.ofChange fnWorstWrong)

/-- 'laws.FnMisses': WHATEVER THE INPUT: true; the input reads as it did. -/
def fnMissesSpec : ChangeSpec := { name := "fnMisses", fn := fun _ => fun
  | [d] => { results := [.lit (.bool true)], args := [d] }
  | _ => none }
def fnMissesRow : OpenClaim := { program := "ytpncpeokdcolpaa", sum := "0f5749d25d593258a047df23c3d85f7821dfae58cd2284613ce01646085c8520", func := "loop.example/opentables/laws.FnMisses", spec := "fnMisses", unfollowed := true, recurses := true, apart := false }
def FnMissesSaid : Prop := fnMissesRow.holds Try.pinned (OpenSpec.ofChange fnMissesSpec)

/-- ITS FALSE NEIGHBOUR: 'it returns false'. Refute it at one input. -/
def fnMissesWrong : ChangeSpec := { name := "fnMisses", fn := fun _ => fun
  | [d] => { results := [.lit (.bool false)], args := [d] }
  | _ => none }
def FnMissesWrongFalsely : Prop := fnMissesRow.holds Try.pinned (OpenSpec.ofChange fnMissesWrong)

/-- 'laws.FnSpread': WHATEVER THE INPUT: true; the input reads as it did. -/
def fnSpreadSpec : ChangeSpec := { name := "fnSpread", fn := fun _ => fun
  | [d] => { results := [.lit (.bool true)], args := [d] }
  | _ => none }
def fnSpreadRow : OpenClaim := { program := "ytpncpeokdcolpaa", sum := "0f5749d25d593258a047df23c3d85f7821dfae58cd2284613ce01646085c8520", func := "loop.example/opentables/laws.FnSpread", spec := "fnSpread", unfollowed := true, recurses := true, apart := false }
def FnSpreadSaid : Prop := fnSpreadRow.holds Try.pinned (OpenSpec.ofChange fnSpreadSpec)

/-- ITS FALSE NEIGHBOUR: 'it returns false'. Refute it at one input. -/
def fnSpreadWrong : ChangeSpec := { name := "fnSpread", fn := fun _ => fun
  | [d] => { results := [.lit (.bool false)], args := [d] }
  | _ => none }
def FnSpreadWrongFalsely : Prop := fnSpreadRow.holds Try.pinned (OpenSpec.ofChange fnSpreadWrong)

/- THE SECOND FORM. 'bulk': how many values and letters a reading holds, each counted each time it is reached (what is shared counts as often as it is met; a slice's spare places count too). A statement '..UptoSaid' is the law's where the arguments, and the package variables that the reading takes, are together of bulk at most 1048576: NARROWER than '..Said'. Prove '..Said' where nothing that the law and all that it calls make is longer than what came in: it says more and counts as full. Else prove '..UptoSaid'. A law counts once. -/
mutual
def uptoBulk {H : Type} : DataW H → Nat
  | .lit (.string bytes) => bytes.length + 1
  | .lit _ => 1
  | .nil => 1
  | .ptr d => uptoBulk d + 1
  | .slice elems spare => uptoBulkAll elems + uptoBulkAll spare + 1
  | .agg parts => uptoBulkAll parts + 1
  | .iface _ d => uptoBulk d + 1
  | .map entries => uptoBulkEntries entries + 1
  | .held _ => 1
def uptoBulkAll {H : Type} : List (DataW H) → Nat
  | [] => 0
  | d :: r => uptoBulk d + uptoBulkAll r
def uptoBulkEntries {H : Type} : List (Lit × DataW H) → Nat
  | [] => 0
  | x :: r => uptoBulkEntry x + uptoBulkEntries r
def uptoBulkEntry {H : Type} : Lit × DataW H → Nat
  | (.string bytes, d) => bytes.length + uptoBulk d + 1
  | (_, d) => uptoBulk d + 1
 end
def uptoSmall : (H : Type) → List (DataW H) → Bool := fun _ ds => decide (uptoBulkAll ds ≤ 1048576)
def OpenSpec.upto (s : _root_.Go.ChangeSpec) : _root_.Go.OpenSpec := { _root_.Go.OpenSpec.ofChange s with cond := some uptoSmall }

/-- 'laws.FnExactHitVisits', WHERE WHAT IT READS IS OF BULK AT MOST 1048576: true; the input reads as it did. -/
def fnExactHitVisitsUptoRow : OpenClaim := { program := "ytpncpeokdcolpaa", sum := "0f5749d25d593258a047df23c3d85f7821dfae58cd2284613ce01646085c8520", func := "loop.example/opentables/laws.FnExactHitVisits", spec := "fnExactHitVisits", inPlace := ["internal/reflectlite.TypeOf"], unfollowed := true, recurses := true, apart := false, narrowed := true }
def FnExactHitVisitsUptoSaid : Prop := fnExactHitVisitsUptoRow.holds Try.pinned (OpenSpec.upto fnExactHitVisitsSpec)

/-- 'laws.FnExactMissAt', WHERE WHAT IT READS IS OF BULK AT MOST 1048576: true; the input reads as it did. -/
def fnExactMissAtUptoRow : OpenClaim := { program := "ytpncpeokdcolpaa", sum := "0f5749d25d593258a047df23c3d85f7821dfae58cd2284613ce01646085c8520", func := "loop.example/opentables/laws.FnExactMissAt", spec := "fnExactMissAt", unfollowed := true, recurses := true, apart := false, narrowed := true }
def FnExactMissAtUptoSaid : Prop := fnExactMissAtUptoRow.holds Try.pinned (OpenSpec.upto fnExactMissAtSpec)

/-- 'laws.FnExactMissVisits', WHERE WHAT IT READS IS OF BULK AT MOST 1048576: true; the input reads as it did. -/
def fnExactMissVisitsUptoRow : OpenClaim := { program := "ytpncpeokdcolpaa", sum := "0f5749d25d593258a047df23c3d85f7821dfae58cd2284613ce01646085c8520", func := "loop.example/opentables/laws.FnExactMissVisits", spec := "fnExactMissVisits", unfollowed := true, recurses := true, apart := false, narrowed := true }
def FnExactMissVisitsUptoSaid : Prop := fnExactMissVisitsUptoRow.holds Try.pinned (OpenSpec.upto fnExactMissVisitsSpec)

/-- 'laws.FnExactWorstMiss', WHERE WHAT IT READS IS OF BULK AT MOST 1048576: true; the input reads as it did. -/
def fnExactWorstMissUptoRow : OpenClaim := { program := "ytpncpeokdcolpaa", sum := "0f5749d25d593258a047df23c3d85f7821dfae58cd2284613ce01646085c8520", func := "loop.example/opentables/laws.FnExactWorstMiss", spec := "fnExactWorstMiss", unfollowed := true, recurses := true, apart := false, narrowed := true }
def FnExactWorstMissUptoSaid : Prop := fnExactWorstMissUptoRow.holds Try.pinned (OpenSpec.upto fnExactWorstMissSpec)

/-- 'laws.FnWorst', WHERE WHAT IT READS IS OF BULK AT MOST 1048576: true; the input reads as it did. -/
def fnWorstUptoRow : OpenClaim := { program := "ytpncpeokdcolpaa", sum := "0f5749d25d593258a047df23c3d85f7821dfae58cd2284613ce01646085c8520", func := "loop.example/opentables/laws.FnWorst", spec := "fnWorst", unfollowed := true, recurses := true, apart := false, narrowed := true }
def FnWorstUptoSaid : Prop := fnWorstUptoRow.holds Try.pinned (OpenSpec.upto fnWorstSpec)

/-- 'laws.FnMisses', WHERE WHAT IT READS IS OF BULK AT MOST 1048576: true; the input reads as it did. -/
def fnMissesUptoRow : OpenClaim := { program := "ytpncpeokdcolpaa", sum := "0f5749d25d593258a047df23c3d85f7821dfae58cd2284613ce01646085c8520", func := "loop.example/opentables/laws.FnMisses", spec := "fnMisses", unfollowed := true, recurses := true, apart := false, narrowed := true }
def FnMissesUptoSaid : Prop := fnMissesUptoRow.holds Try.pinned (OpenSpec.upto fnMissesSpec)

/-- 'laws.FnSpread', WHERE WHAT IT READS IS OF BULK AT MOST 1048576: true; the input reads as it did. -/
def fnSpreadUptoRow : OpenClaim := { program := "ytpncpeokdcolpaa", sum := "0f5749d25d593258a047df23c3d85f7821dfae58cd2284613ce01646085c8520", func := "loop.example/opentables/laws.FnSpread", spec := "fnSpread", unfollowed := true, recurses := true, apart := false, narrowed := true }
def FnSpreadUptoSaid : Prop := fnSpreadUptoRow.holds Try.pinned (OpenSpec.upto fnSpreadSpec)

end Rows
end Go.Proofs.Ytpncpeokdcolpaa

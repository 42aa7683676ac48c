/-
  No cell of these rows narrows 'for every input' (looked for: loops, veiled, ifaces, maps, wideKeys, modest, calm, conditions, laid).
  DERIVED. THE GIVEN ROWS OF THIS SEAT. 13 by the template 'for every input the law returns true; each argument reads behind the call as it read before'; 0 by the template 'total and deterministic' (their statements: YtlhbddjaioodkaaTotals.lean).
  GIVEN WITH THE SEED: the statements are not yours to turn. If you find one false, say at which input.
  Laid BY PROGRAM, IN A SANDBOX (cutbox-rows.mjs): the forced cells as the released guide's own fill.sh prints them over the translation 5b9f764b8858c039… (all of the seat's roots in one cut). By AI agents, Wed Nov 11 2026. No macro, syntax, notation, axiom, sorry.
-/
import Derived.Test.YtlhbddjaioodkaaChecked
import GoSem.Claim
import GoSem.ClaimJoined
import GoSem.ClaimMapViews
import Derived.JoinedTies
import Derived.KernelRfl
namespace Go.Proofs.Ytlhbddjaioodkaa
/- THE CELL 'sum', in the pinned program and in every row, IS THE sha256 OF THE DUMP (.gsa) THAT YtlhbddjaioodkaaProg.lean LOADS. Nothing in Lean hashes anything: it is a label: what it is worth is what the hold of that sum in a sandbox is worth. -/
noncomputable def Try.pinned : Pinned := { name := "ytlhbddjaioodkaa", sum := "5b9f764b8858c039e038ac334c8f07c51be72c397c324331c2ee9b8116db4a2c", checked := Try.checked }
namespace Rows
def none {H : Type} : Left H := { results := [], args := [] }

/-- 'laws.FnHome': WHATEVER THE INPUT: true; the input reads as it did. -/
def fnHomeSpec : ChangeSpec := { name := "fnHome", fn := fun _ => fun
  | [d1, d2] => { results := [.lit (.bool true)], args := [d1, d2] }
  | _ => none }
def fnHomeRow : OpenClaim := { program := "ytlhbddjaioodkaa", sum := "5b9f764b8858c039e038ac334c8f07c51be72c397c324331c2ee9b8116db4a2c", func := "loop.example/opentables/laws.FnHome", spec := "fnHome", apart := false }
def FnHomeSaid : Prop := fnHomeRow.holds Try.pinned (OpenSpec.ofChange fnHomeSpec)

/-- ITS FALSE NEIGHBOUR: 'it returns false'. Refute it at one input. -/
def fnHomeWrong : ChangeSpec := { name := "fnHome", fn := fun _ => fun
  | [d1, d2] => { results := [.lit (.bool false)], args := [d1, d2] }
  | _ => none }
def FnHomeWrongFalsely : Prop := fnHomeRow.holds Try.pinned (OpenSpec.ofChange fnHomeWrong)

/-- 'laws.FnKeysIn': WHATEVER THE INPUT: true; the input reads as it did. -/
def fnKeysInSpec : ChangeSpec := { name := "fnKeysIn", fn := fun _ => fun
  | [d] => { results := [.lit (.bool true)], args := [d] }
  | _ => none }
def fnKeysInRow : OpenClaim := { program := "ytlhbddjaioodkaa", sum := "5b9f764b8858c039e038ac334c8f07c51be72c397c324331c2ee9b8116db4a2c", func := "loop.example/opentables/laws.FnKeysIn", spec := "fnKeysIn", unfollowed := true, recurses := true, apart := false }
def FnKeysInSaid : Prop := fnKeysInRow.holds Try.pinned (OpenSpec.ofChange fnKeysInSpec)

/-- ITS FALSE NEIGHBOUR: 'it returns false'. Refute it at one input. -/
def fnKeysInWrong : ChangeSpec := { name := "fnKeysIn", fn := fun _ => fun
  | [d] => { results := [.lit (.bool false)], args := [d] }
  | _ => none }
def FnKeysInWrongFalsely : Prop := fnKeysInRow.holds Try.pinned (OpenSpec.ofChange fnKeysInWrong)

/-- 'laws.FnAway': WHATEVER THE INPUT: true; the input reads as it did. -/
def fnAwaySpec : ChangeSpec := { name := "fnAway", fn := fun _ => fun
  | [d] => { results := [.lit (.bool true)], args := [d] }
  | _ => none }
def fnAwayRow : OpenClaim := { program := "ytlhbddjaioodkaa", sum := "5b9f764b8858c039e038ac334c8f07c51be72c397c324331c2ee9b8116db4a2c", func := "loop.example/opentables/laws.FnAway", spec := "fnAway", apart := false }
def FnAwaySaid : Prop := fnAwayRow.holds Try.pinned (OpenSpec.ofChange fnAwaySpec)

/-- ITS FALSE NEIGHBOUR: 'it returns false'. Refute it at one input. -/
def fnAwayWrong : ChangeSpec := { name := "fnAway", fn := fun _ => fun
  | [d] => { results := [.lit (.bool false)], args := [d] }
  | _ => none }
def FnAwayWrongFalsely : Prop := fnAwayRow.holds Try.pinned (OpenSpec.ofChange fnAwayWrong)

/-- 'laws.FnTurned': WHATEVER THE INPUT: true; the input reads as it did. -/
def fnTurnedSpec : ChangeSpec := { name := "fnTurned", fn := fun _ => fun
  | [d] => { results := [.lit (.bool true)], args := [d] }
  | _ => none }
def fnTurnedRow : OpenClaim := { program := "ytlhbddjaioodkaa", sum := "5b9f764b8858c039e038ac334c8f07c51be72c397c324331c2ee9b8116db4a2c", func := "loop.example/opentables/laws.FnTurned", spec := "fnTurned", apart := false }
def FnTurnedSaid : Prop := fnTurnedRow.holds Try.pinned (OpenSpec.ofChange fnTurnedSpec)

/-- ITS FALSE NEIGHBOUR: 'it returns false'. Refute it at one input. -/
def fnTurnedWrong : ChangeSpec := { name := "fnTurned", fn := fun _ => fun
  | [d] => { results := [.lit (.bool false)], args := [d] }
  | _ => none }
def FnTurnedWrongFalsely : Prop := fnTurnedRow.holds Try.pinned (OpenSpec.ofChange fnTurnedWrong)

/-- 'laws.FnAllHomes': WHATEVER THE INPUT: true; the input reads as it did. -/
def fnAllHomesSpec : ChangeSpec := { name := "fnAllHomes", fn := fun _ => fun
  | [d] => { results := [.lit (.bool true)], args := [d] }
  | _ => none }
def fnAllHomesRow : OpenClaim := { program := "ytlhbddjaioodkaa", sum := "5b9f764b8858c039e038ac334c8f07c51be72c397c324331c2ee9b8116db4a2c", func := "loop.example/opentables/laws.FnAllHomes", spec := "fnAllHomes", apart := false }
def FnAllHomesSaid : Prop := fnAllHomesRow.holds Try.pinned (OpenSpec.ofChange fnAllHomesSpec)

/-- ITS FALSE NEIGHBOUR: 'it returns false'. Refute it at one input. -/
def fnAllHomesWrong : ChangeSpec := { name := "fnAllHomes", fn := fun _ => fun
  | [d] => { results := [.lit (.bool false)], args := [d] }
  | _ => none }
def FnAllHomesWrongFalsely : Prop := fnAllHomesRow.holds Try.pinned (OpenSpec.ofChange fnAllHomesWrong)

/-- 'laws.FnExactTableValid': WHATEVER THE INPUT: true; the input reads as it did. -/
def fnExactTableValidSpec : ChangeSpec := { name := "fnExactTableValid", fn := fun _ => fun
  | [d] => { results := [.lit (.bool true)], args := [d] }
  | _ => none }
def fnExactTableValidRow : OpenClaim := { program := "ytlhbddjaioodkaa", sum := "5b9f764b8858c039e038ac334c8f07c51be72c397c324331c2ee9b8116db4a2c", func := "loop.example/opentables/laws.FnExactTableValid", spec := "fnExactTableValid", apart := false }
def FnExactTableValidSaid : Prop := fnExactTableValidRow.holds Try.pinned (OpenSpec.ofChange fnExactTableValidSpec)

/-- ITS FALSE NEIGHBOUR: 'it returns false'. Refute it at one input. -/
def fnExactTableValidWrong : ChangeSpec := { name := "fnExactTableValid", fn := fun _ => fun
  | [d] => { results := [.lit (.bool false)], args := [d] }
  | _ => none }
def FnExactTableValidWrongFalsely : Prop := fnExactTableValidRow.holds Try.pinned (OpenSpec.ofChange fnExactTableValidWrong)

/-- 'laws.FnExactNewTable': WHATEVER THE INPUT: true; the input reads as it did. -/
def fnExactNewTableSpec : ChangeSpec := { name := "fnExactNewTable", fn := fun _ => fun
  | [d1, d2, d3] => { results := [.lit (.bool true)], args := [d1, d2, d3] }
  | _ => none }
def fnExactNewTableRow : OpenClaim := { program := "ytlhbddjaioodkaa", sum := "5b9f764b8858c039e038ac334c8f07c51be72c397c324331c2ee9b8116db4a2c", func := "loop.example/opentables/laws.FnExactNewTable", spec := "fnExactNewTable", apart := false }
def FnExactNewTableSaid : Prop := fnExactNewTableRow.holds Try.pinned (OpenSpec.ofChange fnExactNewTableSpec)

/-- ITS FALSE NEIGHBOUR: 'it returns false'. Refute it at one input. -/
def fnExactNewTableWrong : ChangeSpec := { name := "fnExactNewTable", fn := fun _ => fun
  | [d1, d2, d3] => { results := [.lit (.bool false)], args := [d1, d2, d3] }
  | _ => none }
def FnExactNewTableWrongFalsely : Prop := fnExactNewTableRow.holds Try.pinned (OpenSpec.ofChange fnExactNewTableWrong)

/-- 'laws.FnExactParseTable': WHATEVER THE INPUT: true; the input reads as it did. -/
def fnExactParseTableSpec : ChangeSpec := { name := "fnExactParseTable", fn := fun _ => fun
  | [d] => { results := [.lit (.bool true)], args := [d] }
  | _ => none }
def fnExactParseTableRow : OpenClaim := { program := "ytlhbddjaioodkaa", sum := "5b9f764b8858c039e038ac334c8f07c51be72c397c324331c2ee9b8116db4a2c", func := "loop.example/opentables/laws.FnExactParseTable", spec := "fnExactParseTable", unfollowed := true, recurses := true, apart := false }
def FnExactParseTableSaid : Prop := fnExactParseTableRow.holds Try.pinned (OpenSpec.ofChange fnExactParseTableSpec)

/-- ITS FALSE NEIGHBOUR: 'it returns false'. Refute it at one input. -/
def fnExactParseTableWrong : ChangeSpec := { name := "fnExactParseTable", fn := fun _ => fun
  | [d] => { results := [.lit (.bool false)], args := [d] }
  | _ => none }
def FnExactParseTableWrongFalsely : Prop := fnExactParseTableRow.holds Try.pinned (OpenSpec.ofChange fnExactParseTableWrong)

/-- 'laws.FnExactHomeOf': WHATEVER THE INPUT: true; the input reads as it did. -/
def fnExactHomeOfSpec : ChangeSpec := { name := "fnExactHomeOf", fn := fun _ => fun
  | [d1, d2] => { results := [.lit (.bool true)], args := [d1, d2] }
  | _ => none }
def fnExactHomeOfRow : OpenClaim := { program := "ytlhbddjaioodkaa", sum := "5b9f764b8858c039e038ac334c8f07c51be72c397c324331c2ee9b8116db4a2c", func := "loop.example/opentables/laws.FnExactHomeOf", spec := "fnExactHomeOf", apart := false }
def FnExactHomeOfSaid : Prop := fnExactHomeOfRow.holds Try.pinned (OpenSpec.ofChange fnExactHomeOfSpec)

/-- ITS FALSE NEIGHBOUR: 'it returns false'. Refute it at one input. -/
def fnExactHomeOfWrong : ChangeSpec := { name := "fnExactHomeOf", fn := fun _ => fun
  | [d1, d2] => { results := [.lit (.bool false)], args := [d1, d2] }
  | _ => none }
def FnExactHomeOfWrongFalsely : Prop := fnExactHomeOfRow.holds Try.pinned (OpenSpec.ofChange fnExactHomeOfWrong)

/-- 'laws.FnExactKeysIn': WHATEVER THE INPUT: true; the input reads as it did. -/
def fnExactKeysInSpec : ChangeSpec := { name := "fnExactKeysIn", fn := fun _ => fun
  | [d] => { results := [.lit (.bool true)], args := [d] }
  | _ => none }
def fnExactKeysInRow : OpenClaim := { program := "ytlhbddjaioodkaa", sum := "5b9f764b8858c039e038ac334c8f07c51be72c397c324331c2ee9b8116db4a2c", func := "loop.example/opentables/laws.FnExactKeysIn", spec := "fnExactKeysIn", unfollowed := true, recurses := true, apart := false }
def FnExactKeysInSaid : Prop := fnExactKeysInRow.holds Try.pinned (OpenSpec.ofChange fnExactKeysInSpec)

/-- ITS FALSE NEIGHBOUR: 'it returns false'. Refute it at one input. -/
def fnExactKeysInWrong : ChangeSpec := { name := "fnExactKeysIn", fn := fun _ => fun
  | [d] => { results := [.lit (.bool false)], args := [d] }
  | _ => none }
def FnExactKeysInWrongFalsely : Prop := fnExactKeysInRow.holds Try.pinned (OpenSpec.ofChange fnExactKeysInWrong)

/-- 'laws.FnExactCountSlots': WHATEVER THE INPUT: true; the input reads as it did. -/
def fnExactCountSlotsSpec : ChangeSpec := { name := "fnExactCountSlots", fn := fun _ => fun
  | [d] => { results := [.lit (.bool true)], args := [d] }
  | _ => none }
def fnExactCountSlotsRow : OpenClaim := { program := "ytlhbddjaioodkaa", sum := "5b9f764b8858c039e038ac334c8f07c51be72c397c324331c2ee9b8116db4a2c", func := "loop.example/opentables/laws.FnExactCountSlots", spec := "fnExactCountSlots", apart := false }
def FnExactCountSlotsSaid : Prop := fnExactCountSlotsRow.holds Try.pinned (OpenSpec.ofChange fnExactCountSlotsSpec)

/-- ITS FALSE NEIGHBOUR: 'it returns false'. Refute it at one input. -/
def fnExactCountSlotsWrong : ChangeSpec := { name := "fnExactCountSlots", fn := fun _ => fun
  | [d] => { results := [.lit (.bool false)], args := [d] }
  | _ => none }
def FnExactCountSlotsWrongFalsely : Prop := fnExactCountSlotsRow.holds Try.pinned (OpenSpec.ofChange fnExactCountSlotsWrong)

/-- 'laws.FnExactSameTable': WHATEVER THE INPUT: true; the input reads as it did. -/
def fnExactSameTableSpec : ChangeSpec := { name := "fnExactSameTable", fn := fun _ => fun
  | [d1, d2] => { results := [.lit (.bool true)], args := [d1, d2] }
  | _ => none }
def fnExactSameTableRow : OpenClaim := { program := "ytlhbddjaioodkaa", sum := "5b9f764b8858c039e038ac334c8f07c51be72c397c324331c2ee9b8116db4a2c", func := "loop.example/opentables/laws.FnExactSameTable", spec := "fnExactSameTable", apart := false }
def FnExactSameTableSaid : Prop := fnExactSameTableRow.holds Try.pinned (OpenSpec.ofChange fnExactSameTableSpec)

/-- ITS FALSE NEIGHBOUR: 'it returns false'. Refute it at one input. -/
def fnExactSameTableWrong : ChangeSpec := { name := "fnExactSameTable", fn := fun _ => fun
  | [d1, d2] => { results := [.lit (.bool false)], args := [d1, d2] }
  | _ => none }
def FnExactSameTableWrongFalsely : Prop := fnExactSameTableRow.holds Try.pinned (OpenSpec.ofChange fnExactSameTableWrong)

/-- 'laws.FnExactAwayOf': WHATEVER THE INPUT: true; the input reads as it did. -/
def fnExactAwayOfSpec : ChangeSpec := { name := "fnExactAwayOf", fn := fun _ => fun
  | [d1, d2] => { results := [.lit (.bool true)], args := [d1, d2] }
  | _ => none }
def fnExactAwayOfRow : OpenClaim := { program := "ytlhbddjaioodkaa", sum := "5b9f764b8858c039e038ac334c8f07c51be72c397c324331c2ee9b8116db4a2c", func := "loop.example/opentables/laws.FnExactAwayOf", spec := "fnExactAwayOf", apart := false }
def FnExactAwayOfSaid : Prop := fnExactAwayOfRow.holds Try.pinned (OpenSpec.ofChange fnExactAwayOfSpec)

/-- ITS FALSE NEIGHBOUR: 'it returns false'. Refute it at one input. -/
def fnExactAwayOfWrong : ChangeSpec := { name := "fnExactAwayOf", fn := fun _ => fun
  | [d1, d2] => { results := [.lit (.bool false)], args := [d1, d2] }
  | _ => none }
def FnExactAwayOfWrongFalsely : Prop := fnExactAwayOfRow.holds Try.pinned (OpenSpec.ofChange fnExactAwayOfWrong)

/- THE SECOND FORM. 'bulk': how many values and letters a reading holds, each counted each time it is reached (what is shared counts as often as it is met; a slice's spare places count too). A statement '..UptoSaid' is the law's where the arguments, and the package variables that the reading takes, are together of bulk at most 1048576: NARROWER than '..Said'. Prove '..Said' where nothing that the law and all that it calls make is longer than what came in: it says more and counts as full. Else prove '..UptoSaid'. A law counts once. -/
mutual
def uptoBulk {H : Type} : DataW H → Nat
  | .lit (.string bytes) => bytes.length + 1
  | .lit _ => 1
  | .nil => 1
  | .ptr d => uptoBulk d + 1
  | .slice elems spare => uptoBulkAll elems + uptoBulkAll spare + 1
  | .agg parts => uptoBulkAll parts + 1
  | .iface _ d => uptoBulk d + 1
  | .map entries => uptoBulkEntries entries + 1
  | .held _ => 1
def uptoBulkAll {H : Type} : List (DataW H) → Nat
  | [] => 0
  | d :: r => uptoBulk d + uptoBulkAll r
def uptoBulkEntries {H : Type} : List (Lit × DataW H) → Nat
  | [] => 0
  | x :: r => uptoBulkEntry x + uptoBulkEntries r
def uptoBulkEntry {H : Type} : Lit × DataW H → Nat
  | (.string bytes, d) => bytes.length + uptoBulk d + 1
  | (_, d) => uptoBulk d + 1
 end
def uptoSmall : (H : Type) → List (DataW H) → Bool := fun _ ds => decide (uptoBulkAll ds ≤ 1048576)
def OpenSpec.upto (s : _root_.Go.ChangeSpec) : _root_.Go.OpenSpec := { _root_.Go.OpenSpec.ofChange s with cond := some uptoSmall }

/-- 'laws.FnHome', WHERE WHAT IT READS IS OF BULK AT MOST 1048576: true; the input reads as it did. -/
def fnHomeUptoRow : OpenClaim := { program := "ytlhbddjaioodkaa", sum := "5b9f764b8858c039e038ac334c8f07c51be72c397c324331c2ee9b8116db4a2c", func := "loop.example/opentables/laws.FnHome", spec := "fnHome", apart := false, narrowed := true }
def FnHomeUptoSaid : Prop := fnHomeUptoRow.holds Try.pinned (OpenSpec.upto fnHomeSpec)

/-- 'laws.FnKeysIn', WHERE WHAT IT READS IS OF BULK AT MOST 1048576: true; the input reads as it did. -/
def fnKeysInUptoRow : OpenClaim := { program := "ytlhbddjaioodkaa", sum := "5b9f764b8858c039e038ac334c8f07c51be72c397c324331c2ee9b8116db4a2c", func := "loop.example/opentables/laws.FnKeysIn", spec := "fnKeysIn", unfollowed := true, recurses := true, apart := false, narrowed := true }
def FnKeysInUptoSaid : Prop := fnKeysInUptoRow.holds Try.pinned (OpenSpec.upto fnKeysInSpec)

/-- 'laws.FnAway', WHERE WHAT IT READS IS OF BULK AT MOST 1048576: true; the input reads as it did. -/
def fnAwayUptoRow : OpenClaim := { program := "ytlhbddjaioodkaa", sum := "5b9f764b8858c039e038ac334c8f07c51be72c397c324331c2ee9b8116db4a2c", func := "loop.example/opentables/laws.FnAway", spec := "fnAway", apart := false, narrowed := true }
def FnAwayUptoSaid : Prop := fnAwayUptoRow.holds Try.pinned (OpenSpec.upto fnAwaySpec)

/-- 'laws.FnTurned', WHERE WHAT IT READS IS OF BULK AT MOST 1048576: true; the input reads as it did. -/
def fnTurnedUptoRow : OpenClaim := { program := "ytlhbddjaioodkaa", sum := "5b9f764b8858c039e038ac334c8f07c51be72c397c324331c2ee9b8116db4a2c", func := "loop.example/opentables/laws.FnTurned", spec := "fnTurned", apart := false, narrowed := true }
def FnTurnedUptoSaid : Prop := fnTurnedUptoRow.holds Try.pinned (OpenSpec.upto fnTurnedSpec)

/-- 'laws.FnAllHomes', WHERE WHAT IT READS IS OF BULK AT MOST 1048576: true; the input reads as it did. -/
def fnAllHomesUptoRow : OpenClaim := { program := "ytlhbddjaioodkaa", sum := "5b9f764b8858c039e038ac334c8f07c51be72c397c324331c2ee9b8116db4a2c", func := "loop.example/opentables/laws.FnAllHomes", spec := "fnAllHomes", apart := false, narrowed := true }
def FnAllHomesUptoSaid : Prop := fnAllHomesUptoRow.holds Try.pinned (OpenSpec.upto fnAllHomesSpec)

/-- 'laws.FnExactTableValid', WHERE WHAT IT READS IS OF BULK AT MOST 1048576: true; the input reads as it did. -/
def fnExactTableValidUptoRow : OpenClaim := { program := "ytlhbddjaioodkaa", sum := "5b9f764b8858c039e038ac334c8f07c51be72c397c324331c2ee9b8116db4a2c", func := "loop.example/opentables/laws.FnExactTableValid", spec := "fnExactTableValid", apart := false, narrowed := true }
def FnExactTableValidUptoSaid : Prop := fnExactTableValidUptoRow.holds Try.pinned (OpenSpec.upto fnExactTableValidSpec)

/-- 'laws.FnExactNewTable', WHERE WHAT IT READS IS OF BULK AT MOST 1048576: true; the input reads as it did. -/
def fnExactNewTableUptoRow : OpenClaim := { program := "ytlhbddjaioodkaa", sum := "5b9f764b8858c039e038ac334c8f07c51be72c397c324331c2ee9b8116db4a2c", func := "loop.example/opentables/laws.FnExactNewTable", spec := "fnExactNewTable", apart := false, narrowed := true }
def FnExactNewTableUptoSaid : Prop := fnExactNewTableUptoRow.holds Try.pinned (OpenSpec.upto fnExactNewTableSpec)

/-- 'laws.FnExactParseTable', WHERE WHAT IT READS IS OF BULK AT MOST 1048576: true; the input reads as it did. -/
def fnExactParseTableUptoRow : OpenClaim := { program := "ytlhbddjaioodkaa", sum := "5b9f764b8858c039e038ac334c8f07c51be72c397c324331c2ee9b8116db4a2c", func := "loop.example/opentables/laws.FnExactParseTable", spec := "fnExactParseTable", unfollowed := true, recurses := true, apart := false, narrowed := true }
def FnExactParseTableUptoSaid : Prop := fnExactParseTableUptoRow.holds Try.pinned (OpenSpec.upto fnExactParseTableSpec)

/-- 'laws.FnExactHomeOf', WHERE WHAT IT READS IS OF BULK AT MOST 1048576: true; the input reads as it did. -/
def fnExactHomeOfUptoRow : OpenClaim := { program := "ytlhbddjaioodkaa", sum := "5b9f764b8858c039e038ac334c8f07c51be72c397c324331c2ee9b8116db4a2c", func := "loop.example/opentables/laws.FnExactHomeOf", spec := "fnExactHomeOf", apart := false, narrowed := true }
def FnExactHomeOfUptoSaid : Prop := fnExactHomeOfUptoRow.holds Try.pinned (OpenSpec.upto fnExactHomeOfSpec)

/-- 'laws.FnExactKeysIn', WHERE WHAT IT READS IS OF BULK AT MOST 1048576: true; the input reads as it did. -/
def fnExactKeysInUptoRow : OpenClaim := { program := "ytlhbddjaioodkaa", sum := "5b9f764b8858c039e038ac334c8f07c51be72c397c324331c2ee9b8116db4a2c", func := "loop.example/opentables/laws.FnExactKeysIn", spec := "fnExactKeysIn", unfollowed := true, recurses := true, apart := false, narrowed := true }
def FnExactKeysInUptoSaid : Prop := fnExactKeysInUptoRow.holds Try.pinned (OpenSpec.upto fnExactKeysInSpec)

/-- 'laws.FnExactCountSlots', WHERE WHAT IT READS IS OF BULK AT MOST 1048576: true; the input reads as it did. -/
def fnExactCountSlotsUptoRow : OpenClaim := { program := "ytlhbddjaioodkaa", sum := "5b9f764b8858c039e038ac334c8f07c51be72c397c324331c2ee9b8116db4a2c", func := "loop.example/opentables/laws.FnExactCountSlots", spec := "fnExactCountSlots", apart := false, narrowed := true }
def FnExactCountSlotsUptoSaid : Prop := fnExactCountSlotsUptoRow.holds Try.pinned (OpenSpec.upto fnExactCountSlotsSpec)

/-- 'laws.FnExactSameTable', WHERE WHAT IT READS IS OF BULK AT MOST 1048576: true; the input reads as it did. -/
def fnExactSameTableUptoRow : OpenClaim := { program := "ytlhbddjaioodkaa", sum := "5b9f764b8858c039e038ac334c8f07c51be72c397c324331c2ee9b8116db4a2c", func := "loop.example/opentables/laws.FnExactSameTable", spec := "fnExactSameTable", apart := false, narrowed := true }
def FnExactSameTableUptoSaid : Prop := fnExactSameTableUptoRow.holds Try.pinned (OpenSpec.upto fnExactSameTableSpec)

/-- 'laws.FnExactAwayOf', WHERE WHAT IT READS IS OF BULK AT MOST 1048576: true; the input reads as it did. -/
def fnExactAwayOfUptoRow : OpenClaim := { program := "ytlhbddjaioodkaa", sum := "5b9f764b8858c039e038ac334c8f07c51be72c397c324331c2ee9b8116db4a2c", func := "loop.example/opentables/laws.FnExactAwayOf", spec := "fnExactAwayOf", apart := false, narrowed := true }
def FnExactAwayOfUptoSaid : Prop := fnExactAwayOfUptoRow.holds Try.pinned (OpenSpec.upto fnExactAwayOfSpec)

end Rows
end Go.Proofs.Ytlhbddjaioodkaa

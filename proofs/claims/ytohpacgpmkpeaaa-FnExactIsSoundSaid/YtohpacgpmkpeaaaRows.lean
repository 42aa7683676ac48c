/-
  No cell of these rows narrows 'for every input' (looked for: loops, veiled, ifaces, maps, wideKeys, modest, calm, conditions, laid).
  DERIVED. THE GIVEN ROWS OF THIS SEAT. 12 by the template 'for every input the law returns true; each argument reads behind the call as it read before'; 0 by the template 'total and deterministic' (their statements: YtohpacgpmkpeaaaTotals.lean).
  GIVEN WITH THE SEED: the statements are not yours to turn. If you find one false, say at which input.
  Laid BY PROGRAM, IN A SANDBOX (cutbox-rows.mjs): the forced cells as the released guide's own fill.sh prints them over the translation cd12a9618b122bc7… (all of the seat's roots in one cut). By AI agents, Wed Nov 11 2026. No macro, syntax, notation, axiom, sorry.
-/
import Derived.Test.YtohpacgpmkpeaaaChecked
import GoSem.Claim
import GoSem.ClaimJoined
import GoSem.ClaimMapViews
import Derived.JoinedTies
import Derived.KernelRfl
namespace Go.Proofs.Ytohpacgpmkpeaaa
/- THE CELL 'sum', in the pinned program and in every row, IS THE sha256 OF THE DUMP (.gsa) THAT YtohpacgpmkpeaaaProg.lean LOADS. Nothing in Lean hashes anything: it is a label: what it is worth is what the hold of that sum in a sandbox is worth. -/
noncomputable def Try.pinned : Pinned := { name := "ytohpacgpmkpeaaa", sum := "cd12a9618b122bc733aa0407bba6e20b85a862586bae72c5abd6fde64647e1c5", checked := Try.checked }
namespace Rows
def none {H : Type} : Left H := { results := [], args := [] }

/-- 'laws.FnLost': WHATEVER THE INPUT: true; the input reads as it did. -/
def fnLostSpec : ChangeSpec := { name := "fnLost", fn := fun _ => fun
  | [d1, d2] => { results := [.lit (.bool true)], args := [d1, d2] }
  | _ => none }
def fnLostRow : OpenClaim := { program := "ytohpacgpmkpeaaa", sum := "cd12a9618b122bc733aa0407bba6e20b85a862586bae72c5abd6fde64647e1c5", func := "loop.example/opentables/laws.FnLost", spec := "fnLost", inPlace := ["internal/reflectlite.TypeOf"], unfollowed := true, recurses := true, apart := false }
def FnLostSaid : Prop := fnLostRow.holds Try.pinned (OpenSpec.ofChange fnLostSpec)

/-- ITS FALSE NEIGHBOUR: 'it returns false'. Refute it at one input. -/
def fnLostWrong : ChangeSpec := { name := "fnLost", fn := fun _ => fun
  | [d1, d2] => { results := [.lit (.bool false)], args := [d1, d2] }
  | _ => none }
def FnLostWrongFalsely : Prop := fnLostRow.holds Try.pinned (OpenSpec.ofChange fnLostWrong)

/-- 'laws.FnRuns': WHATEVER THE INPUT: true; the input reads as it did. -/
def fnRunsSpec : ChangeSpec := { name := "fnRuns", fn := fun _ => fun
  | [d] => { results := [.lit (.bool true)], args := [d] }
  | _ => none }
def fnRunsRow : OpenClaim := { program := "ytohpacgpmkpeaaa", sum := "cd12a9618b122bc733aa0407bba6e20b85a862586bae72c5abd6fde64647e1c5", func := "loop.example/opentables/laws.FnRuns", spec := "fnRuns", unfollowed := true, recurses := true, apart := false }
def FnRunsSaid : Prop := fnRunsRow.holds Try.pinned (OpenSpec.ofChange fnRunsSpec)

/-- ITS FALSE NEIGHBOUR: 'it returns false'. Refute it at one input. -/
def fnRunsWrong : ChangeSpec := { name := "fnRuns", fn := fun _ => fun
  | [d] => { results := [.lit (.bool false)], args := [d] }
  | _ => none }
def FnRunsWrongFalsely : Prop := fnRunsRow.holds Try.pinned (OpenSpec.ofChange fnRunsWrong)

/-- 'laws.FnRunAt': WHATEVER THE INPUT: true; the input reads as it did. -/
def fnRunAtSpec : ChangeSpec := { name := "fnRunAt", fn := fun _ => fun
  | [d] => { results := [.lit (.bool true)], args := [d] }
  | _ => none }
def fnRunAtRow : OpenClaim := { program := "ytohpacgpmkpeaaa", sum := "cd12a9618b122bc733aa0407bba6e20b85a862586bae72c5abd6fde64647e1c5", func := "loop.example/opentables/laws.FnRunAt", spec := "fnRunAt", unfollowed := true, recurses := true, apart := false }
def FnRunAtSaid : Prop := fnRunAtRow.holds Try.pinned (OpenSpec.ofChange fnRunAtSpec)

/-- ITS FALSE NEIGHBOUR: 'it returns false'. Refute it at one input. -/
def fnRunAtWrong : ChangeSpec := { name := "fnRunAt", fn := fun _ => fun
  | [d] => { results := [.lit (.bool false)], args := [d] }
  | _ => none }
def FnRunAtWrongFalsely : Prop := fnRunAtRow.holds Try.pinned (OpenSpec.ofChange fnRunAtWrong)

/-- 'laws.FnFreeSlots': WHATEVER THE INPUT: true; the input reads as it did. -/
def fnFreeSlotsSpec : ChangeSpec := { name := "fnFreeSlots", fn := fun _ => fun
  | [d] => { results := [.lit (.bool true)], args := [d] }
  | _ => none }
def fnFreeSlotsRow : OpenClaim := { program := "ytohpacgpmkpeaaa", sum := "cd12a9618b122bc733aa0407bba6e20b85a862586bae72c5abd6fde64647e1c5", func := "loop.example/opentables/laws.FnFreeSlots", spec := "fnFreeSlots", inPlace := ["internal/reflectlite.TypeOf"], unfollowed := true, recurses := true, apart := false }
def FnFreeSlotsSaid : Prop := fnFreeSlotsRow.holds Try.pinned (OpenSpec.ofChange fnFreeSlotsSpec)

/-- ITS FALSE NEIGHBOUR: 'it returns false'. Refute it at one input. -/
def fnFreeSlotsWrong : ChangeSpec := { name := "fnFreeSlots", fn := fun _ => fun
  | [d] => { results := [.lit (.bool false)], args := [d] }
  | _ => none }
def FnFreeSlotsWrongFalsely : Prop := fnFreeSlotsRow.holds Try.pinned (OpenSpec.ofChange fnFreeSlotsWrong)

/-- 'laws.FnVisitsBound': WHATEVER THE INPUT: true; the input reads as it did. -/
def fnVisitsBoundSpec : ChangeSpec := { name := "fnVisitsBound", fn := fun _ => fun
  | [d] => { results := [.lit (.bool true)], args := [d] }
  | _ => none }
def fnVisitsBoundRow : OpenClaim := { program := "ytohpacgpmkpeaaa", sum := "cd12a9618b122bc733aa0407bba6e20b85a862586bae72c5abd6fde64647e1c5", func := "loop.example/opentables/laws.FnVisitsBound", spec := "fnVisitsBound", unfollowed := true, recurses := true, apart := false }
def FnVisitsBoundSaid : Prop := fnVisitsBoundRow.holds Try.pinned (OpenSpec.ofChange fnVisitsBoundSpec)

/-- ITS FALSE NEIGHBOUR: 'it returns false'. Refute it at one input. -/
def fnVisitsBoundWrong : ChangeSpec := { name := "fnVisitsBound", fn := fun _ => fun
  | [d] => { results := [.lit (.bool false)], args := [d] }
  | _ => none }
def FnVisitsBoundWrongFalsely : Prop := fnVisitsBoundRow.holds Try.pinned (OpenSpec.ofChange fnVisitsBoundWrong)

/-- 'laws.FnExactParseTable': WHATEVER THE INPUT: true; the input reads as it did. -/
def fnExactParseTableSpec : ChangeSpec := { name := "fnExactParseTable", fn := fun _ => fun
  | [d] => { results := [.lit (.bool true)], args := [d] }
  | _ => none }
def fnExactParseTableRow : OpenClaim := { program := "ytohpacgpmkpeaaa", sum := "cd12a9618b122bc733aa0407bba6e20b85a862586bae72c5abd6fde64647e1c5", func := "loop.example/opentables/laws.FnExactParseTable", spec := "fnExactParseTable", unfollowed := true, recurses := true, apart := false }
def FnExactParseTableSaid : Prop := fnExactParseTableRow.holds Try.pinned (OpenSpec.ofChange fnExactParseTableSpec)

/-- ITS FALSE NEIGHBOUR: 'it returns false'. Refute it at one input. -/
def fnExactParseTableWrong : ChangeSpec := { name := "fnExactParseTable", fn := fun _ => fun
  | [d] => { results := [.lit (.bool false)], args := [d] }
  | _ => none }
def FnExactParseTableWrongFalsely : Prop := fnExactParseTableRow.holds Try.pinned (OpenSpec.ofChange fnExactParseTableWrong)

/-- 'laws.FnExactVisitsFor': WHATEVER THE INPUT: true; the input reads as it did. -/
def fnExactVisitsForSpec : ChangeSpec := { name := "fnExactVisitsFor", fn := fun _ => fun
  | [d1, d2] => { results := [.lit (.bool true)], args := [d1, d2] }
  | _ => none }
def fnExactVisitsForRow : OpenClaim := { program := "ytohpacgpmkpeaaa", sum := "cd12a9618b122bc733aa0407bba6e20b85a862586bae72c5abd6fde64647e1c5", func := "loop.example/opentables/laws.FnExactVisitsFor", spec := "fnExactVisitsFor", unfollowed := true, recurses := true, apart := false }
def FnExactVisitsForSaid : Prop := fnExactVisitsForRow.holds Try.pinned (OpenSpec.ofChange fnExactVisitsForSpec)

/-- ITS FALSE NEIGHBOUR: 'it returns false'. Refute it at one input. -/
def fnExactVisitsForWrong : ChangeSpec := { name := "fnExactVisitsFor", fn := fun _ => fun
  | [d1, d2] => { results := [.lit (.bool false)], args := [d1, d2] }
  | _ => none }
def FnExactVisitsForWrongFalsely : Prop := fnExactVisitsForRow.holds Try.pinned (OpenSpec.ofChange fnExactVisitsForWrong)

/-- 'laws.FnExactLostKeys': WHATEVER THE INPUT: true; the input reads as it did. -/
def fnExactLostKeysSpec : ChangeSpec := { name := "fnExactLostKeys", fn := fun _ => fun
  | [d] => { results := [.lit (.bool true)], args := [d] }
  | _ => none }
def fnExactLostKeysRow : OpenClaim := { program := "ytohpacgpmkpeaaa", sum := "cd12a9618b122bc733aa0407bba6e20b85a862586bae72c5abd6fde64647e1c5", func := "loop.example/opentables/laws.FnExactLostKeys", spec := "fnExactLostKeys", inPlace := ["internal/reflectlite.TypeOf"], unfollowed := true, recurses := true, apart := false }
def FnExactLostKeysSaid : Prop := fnExactLostKeysRow.holds Try.pinned (OpenSpec.ofChange fnExactLostKeysSpec)

/-- ITS FALSE NEIGHBOUR: 'it returns false'. Refute it at one input. -/
def fnExactLostKeysWrong : ChangeSpec := { name := "fnExactLostKeys", fn := fun _ => fun
  | [d] => { results := [.lit (.bool false)], args := [d] }
  | _ => none }
def FnExactLostKeysWrongFalsely : Prop := fnExactLostKeysRow.holds Try.pinned (OpenSpec.ofChange fnExactLostKeysWrong)

/-- 'laws.FnExactIsSound': WHATEVER THE INPUT: true; the input reads as it did. -/
def fnExactIsSoundSpec : ChangeSpec := { name := "fnExactIsSound", fn := fun _ => fun
  | [d] => { results := [.lit (.bool true)], args := [d] }
  | _ => none }
def fnExactIsSoundRow : OpenClaim := { program := "ytohpacgpmkpeaaa", sum := "cd12a9618b122bc733aa0407bba6e20b85a862586bae72c5abd6fde64647e1c5", func := "loop.example/opentables/laws.FnExactIsSound", spec := "fnExactIsSound", inPlace := ["internal/reflectlite.TypeOf"], unfollowed := true, recurses := true, apart := false }
def FnExactIsSoundSaid : Prop := fnExactIsSoundRow.holds Try.pinned (OpenSpec.ofChange fnExactIsSoundSpec)

/-- ITS FALSE NEIGHBOUR: 'it returns false'. Refute it at one input. -/
def fnExactIsSoundWrong : ChangeSpec := { name := "fnExactIsSound", fn := fun _ => fun
  | [d] => { results := [.lit (.bool false)], args := [d] }
  | _ => none }
def FnExactIsSoundWrongFalsely : Prop := fnExactIsSoundRow.holds Try.pinned (OpenSpec.ofChange fnExactIsSoundWrong)

/-- 'laws.FnExactRunsOf': WHATEVER THE INPUT: true; the input reads as it did. -/
def fnExactRunsOfSpec : ChangeSpec := { name := "fnExactRunsOf", fn := fun _ => fun
  | [d] => { results := [.lit (.bool true)], args := [d] }
  | _ => none }
def fnExactRunsOfRow : OpenClaim := { program := "ytohpacgpmkpeaaa", sum := "cd12a9618b122bc733aa0407bba6e20b85a862586bae72c5abd6fde64647e1c5", func := "loop.example/opentables/laws.FnExactRunsOf", spec := "fnExactRunsOf", unfollowed := true, recurses := true, apart := false }
def FnExactRunsOfSaid : Prop := fnExactRunsOfRow.holds Try.pinned (OpenSpec.ofChange fnExactRunsOfSpec)

/-- ITS FALSE NEIGHBOUR: 'it returns false'. Refute it at one input. -/
def fnExactRunsOfWrong : ChangeSpec := { name := "fnExactRunsOf", fn := fun _ => fun
  | [d] => { results := [.lit (.bool false)], args := [d] }
  | _ => none }
def FnExactRunsOfWrongFalsely : Prop := fnExactRunsOfRow.holds Try.pinned (OpenSpec.ofChange fnExactRunsOfWrong)

/-- 'laws.FnExactRunAt': WHATEVER THE INPUT: true; the input reads as it did. -/
def fnExactRunAtSpec : ChangeSpec := { name := "fnExactRunAt", fn := fun _ => fun
  | [d1, d2] => { results := [.lit (.bool true)], args := [d1, d2] }
  | _ => none }
def fnExactRunAtRow : OpenClaim := { program := "ytohpacgpmkpeaaa", sum := "cd12a9618b122bc733aa0407bba6e20b85a862586bae72c5abd6fde64647e1c5", func := "loop.example/opentables/laws.FnExactRunAt", spec := "fnExactRunAt", unfollowed := true, recurses := true, apart := false }
def FnExactRunAtSaid : Prop := fnExactRunAtRow.holds Try.pinned (OpenSpec.ofChange fnExactRunAtSpec)

/-- ITS FALSE NEIGHBOUR: 'it returns false'. Refute it at one input. -/
def fnExactRunAtWrong : ChangeSpec := { name := "fnExactRunAt", fn := fun _ => fun
  | [d1, d2] => { results := [.lit (.bool false)], args := [d1, d2] }
  | _ => none }
def FnExactRunAtWrongFalsely : Prop := fnExactRunAtRow.holds Try.pinned (OpenSpec.ofChange fnExactRunAtWrong)

/-- 'laws.FnExactPlaceFor': WHATEVER THE INPUT: true; the input reads as it did. -/
def fnExactPlaceForSpec : ChangeSpec := { name := "fnExactPlaceFor", fn := fun _ => fun
  | [d1, d2] => { results := [.lit (.bool true)], args := [d1, d2] }
  | _ => none }
def fnExactPlaceForRow : OpenClaim := { program := "ytohpacgpmkpeaaa", sum := "cd12a9618b122bc733aa0407bba6e20b85a862586bae72c5abd6fde64647e1c5", func := "loop.example/opentables/laws.FnExactPlaceFor", spec := "fnExactPlaceFor", unfollowed := true, recurses := true, apart := false }
def FnExactPlaceForSaid : Prop := fnExactPlaceForRow.holds Try.pinned (OpenSpec.ofChange fnExactPlaceForSpec)

/-- ITS FALSE NEIGHBOUR: 'it returns false'. Refute it at one input. -/
def fnExactPlaceForWrong : ChangeSpec := { name := "fnExactPlaceFor", fn := fun _ => fun
  | [d1, d2] => { results := [.lit (.bool false)], args := [d1, d2] }
  | _ => none }
def FnExactPlaceForWrongFalsely : Prop := fnExactPlaceForRow.holds Try.pinned (OpenSpec.ofChange fnExactPlaceForWrong)

/- THE SECOND FORM. 'bulk': how many values and letters a reading holds, each counted each time it is reached (what is shared counts as often as it is met; a slice's spare places count too). A statement '..UptoSaid' is the law's where the arguments, and the package variables that the reading takes, are together of bulk at most 1048576: NARROWER than '..Said'. Prove '..Said' where nothing that the law and all that it calls make is longer than what came in: it says more and counts as full. Else prove '..UptoSaid'. A law counts once. -/
mutual
def uptoBulk {H : Type} : DataW H → Nat
  | .lit (.string bytes) => bytes.length + 1
  | .lit _ => 1
  | .nil => 1
  | .ptr d => uptoBulk d + 1
  | .slice elems spare => uptoBulkAll elems + uptoBulkAll spare + 1
  | .agg parts => uptoBulkAll parts + 1
  | .iface _ d => uptoBulk d + 1
  | .map entries => uptoBulkEntries entries + 1
  | .held _ => 1
def uptoBulkAll {H : Type} : List (DataW H) → Nat
  | [] => 0
  | d :: r => uptoBulk d + uptoBulkAll r
def uptoBulkEntries {H : Type} : List (Lit × DataW H) → Nat
  | [] => 0
  | x :: r => uptoBulkEntry x + uptoBulkEntries r
def uptoBulkEntry {H : Type} : Lit × DataW H → Nat
  | (.string bytes, d) => bytes.length + uptoBulk d + 1
  | (_, d) => uptoBulk d + 1
 end
def uptoSmall : (H : Type) → List (DataW H) → Bool := fun _ ds => decide (uptoBulkAll ds ≤ 1048576)
def OpenSpec.upto (s : _root_.Go.ChangeSpec) : _root_.Go.OpenSpec := { _root_.Go.OpenSpec.ofChange s with cond := some uptoSmall }

/-- 'laws.FnLost', WHERE WHAT IT READS IS OF BULK AT MOST 1048576: true; the input reads as it did. -/
def fnLostUptoRow : OpenClaim := { program := "ytohpacgpmkpeaaa", sum := "cd12a9618b122bc733aa0407bba6e20b85a862586bae72c5abd6fde64647e1c5", func := "loop.example/opentables/laws.FnLost", spec := "fnLost", inPlace := ["internal/reflectlite.TypeOf"], unfollowed := true, recurses := true, apart := false, narrowed := true }
def FnLostUptoSaid : Prop := fnLostUptoRow.holds Try.pinned (OpenSpec.upto fnLostSpec)

/-- 'laws.FnRuns', WHERE WHAT IT READS IS OF BULK AT MOST 1048576: true; the input reads as it did. -/
def fnRunsUptoRow : OpenClaim := { program := "ytohpacgpmkpeaaa", sum := "cd12a9618b122bc733aa0407bba6e20b85a862586bae72c5abd6fde64647e1c5", func := "loop.example/opentables/laws.FnRuns", spec := "fnRuns", unfollowed := true, recurses := true, apart := false, narrowed := true }
def FnRunsUptoSaid : Prop := fnRunsUptoRow.holds Try.pinned (OpenSpec.upto fnRunsSpec)

/-- 'laws.FnRunAt', WHERE WHAT IT READS IS OF BULK AT MOST 1048576: true; the input reads as it did. -/
def fnRunAtUptoRow : OpenClaim := { program := "ytohpacgpmkpeaaa", sum := "cd12a9618b122bc733aa0407bba6e20b85a862586bae72c5abd6fde64647e1c5", func := "loop.example/opentables/laws.FnRunAt", spec := "fnRunAt", unfollowed := true, recurses := true, apart := false, narrowed := true }
def FnRunAtUptoSaid : Prop := fnRunAtUptoRow.holds Try.pinned (OpenSpec.upto fnRunAtSpec)

/-- 'laws.FnFreeSlots', WHERE WHAT IT READS IS OF BULK AT MOST 1048576: true; the input reads as it did. -/
def fnFreeSlotsUptoRow : OpenClaim := { program := "ytohpacgpmkpeaaa", sum := "cd12a9618b122bc733aa0407bba6e20b85a862586bae72c5abd6fde64647e1c5", func := "loop.example/opentables/laws.FnFreeSlots", spec := "fnFreeSlots", inPlace := ["internal/reflectlite.TypeOf"], unfollowed := true, recurses := true, apart := false, narrowed := true }
def FnFreeSlotsUptoSaid : Prop := fnFreeSlotsUptoRow.holds Try.pinned (OpenSpec.upto fnFreeSlotsSpec)

/-- 'laws.FnVisitsBound', WHERE WHAT IT READS IS OF BULK AT MOST 1048576: true; the input reads as it did. -/
def fnVisitsBoundUptoRow : OpenClaim := { program := "ytohpacgpmkpeaaa", sum := "cd12a9618b122bc733aa0407bba6e20b85a862586bae72c5abd6fde64647e1c5", func := "loop.example/opentables/laws.FnVisitsBound", spec := "fnVisitsBound", unfollowed := true, recurses := true, apart := false, narrowed := true }
def FnVisitsBoundUptoSaid : Prop := fnVisitsBoundUptoRow.holds Try.pinned (OpenSpec.upto fnVisitsBoundSpec)

/-- 'laws.FnExactParseTable', WHERE WHAT IT READS IS OF BULK AT MOST 1048576: true; the input reads as it did. -/
def fnExactParseTableUptoRow : OpenClaim := { program := "ytohpacgpmkpeaaa", sum := "cd12a9618b122bc733aa0407bba6e20b85a862586bae72c5abd6fde64647e1c5", func := "loop.example/opentables/laws.FnExactParseTable", spec := "fnExactParseTable", unfollowed := true, recurses := true, apart := false, narrowed := true }
def FnExactParseTableUptoSaid : Prop := fnExactParseTableUptoRow.holds Try.pinned (OpenSpec.upto fnExactParseTableSpec)

/-- 'laws.FnExactVisitsFor', WHERE WHAT IT READS IS OF BULK AT MOST 1048576: true; the input reads as it did. -/
def fnExactVisitsForUptoRow : OpenClaim := { program := "ytohpacgpmkpeaaa", sum := "cd12a9618b122bc733aa0407bba6e20b85a862586bae72c5abd6fde64647e1c5", func := "loop.example/opentables/laws.FnExactVisitsFor", spec := "fnExactVisitsFor", unfollowed := true, recurses := true, apart := false, narrowed := true }
def FnExactVisitsForUptoSaid : Prop := fnExactVisitsForUptoRow.holds Try.pinned (OpenSpec.upto fnExactVisitsForSpec)

/-- 'laws.FnExactLostKeys', WHERE WHAT IT READS IS OF BULK AT MOST 1048576: true; the input reads as it did. -/
def fnExactLostKeysUptoRow : OpenClaim := { program := "ytohpacgpmkpeaaa", sum := "cd12a9618b122bc733aa0407bba6e20b85a862586bae72c5abd6fde64647e1c5", func := "loop.example/opentables/laws.FnExactLostKeys", spec := "fnExactLostKeys", inPlace := ["internal/reflectlite.TypeOf"], unfollowed := true, recurses := true, apart := false, narrowed := true }
def FnExactLostKeysUptoSaid : Prop := fnExactLostKeysUptoRow.holds Try.pinned (OpenSpec.upto fnExactLostKeysSpec)

/-- 'laws.FnExactIsSound', WHERE WHAT IT READS IS OF BULK AT MOST 1048576: true; the input reads as it did. -/
def fnExactIsSoundUptoRow : OpenClaim := { program := "ytohpacgpmkpeaaa", sum := "cd12a9618b122bc733aa0407bba6e20b85a862586bae72c5abd6fde64647e1c5", func := "loop.example/opentables/laws.FnExactIsSound", spec := "fnExactIsSound", inPlace := ["internal/reflectlite.TypeOf"], unfollowed := true, recurses := true, apart := false, narrowed := true }
def FnExactIsSoundUptoSaid : Prop := fnExactIsSoundUptoRow.holds Try.pinned (OpenSpec.upto fnExactIsSoundSpec)

/-- 'laws.FnExactRunsOf', WHERE WHAT IT READS IS OF BULK AT MOST 1048576: true; the input reads as it did. -/
def fnExactRunsOfUptoRow : OpenClaim := { program := "ytohpacgpmkpeaaa", sum := "cd12a9618b122bc733aa0407bba6e20b85a862586bae72c5abd6fde64647e1c5", func := "loop.example/opentables/laws.FnExactRunsOf", spec := "fnExactRunsOf", unfollowed := true, recurses := true, apart := false, narrowed := true }
def FnExactRunsOfUptoSaid : Prop := fnExactRunsOfUptoRow.holds Try.pinned (OpenSpec.upto fnExactRunsOfSpec)

/-- 'laws.FnExactRunAt', WHERE WHAT IT READS IS OF BULK AT MOST 1048576: true; the input reads as it did. -/
def fnExactRunAtUptoRow : OpenClaim := { program := "ytohpacgpmkpeaaa", sum := "cd12a9618b122bc733aa0407bba6e20b85a862586bae72c5abd6fde64647e1c5", func := "loop.example/opentables/laws.FnExactRunAt", spec := "fnExactRunAt", unfollowed := true, recurses := true, apart := false, narrowed := true }
def FnExactRunAtUptoSaid : Prop := fnExactRunAtUptoRow.holds Try.pinned (OpenSpec.upto fnExactRunAtSpec)

/-- 'laws.FnExactPlaceFor', WHERE WHAT IT READS IS OF BULK AT MOST 1048576: true; the input reads as it did. -/
def fnExactPlaceForUptoRow : OpenClaim := { program := "ytohpacgpmkpeaaa", sum := "cd12a9618b122bc733aa0407bba6e20b85a862586bae72c5abd6fde64647e1c5", func := "loop.example/opentables/laws.FnExactPlaceFor", spec := "fnExactPlaceFor", unfollowed := true, recurses := true, apart := false, narrowed := true }
def FnExactPlaceForUptoSaid : Prop := fnExactPlaceForUptoRow.holds Try.pinned (OpenSpec.upto fnExactPlaceForSpec)

end Rows
end Go.Proofs.Ytohpacgpmkpeaaa

/-
  No cell of these rows narrows 'for every input' (looked for: loops, veiled, ifaces, maps, wideKeys, modest, calm, conditions, laid).
  DERIVED. THE GIVEN ROWS OF THIS SEAT. 8 by the template 'for every input the law returns true; each argument reads behind the call as it read before'; 0 by the template 'total and deterministic' (their statements: YtojmjhojgfopaaaTotals.lean).
  GIVEN WITH THE SEED: the statements are not yours to turn. If you find one false, say at which input.
  Laid BY PROGRAM, IN A SANDBOX (cutbox-rows.mjs): the forced cells as the released guide's own fill.sh prints them over the translation 8b0ad5b367741d6e… (all of the seat's roots in one cut). By AI agents, Wed Nov 11 2026. No macro, syntax, notation, axiom, sorry.
-/
import Derived.Test.YtojmjhojgfopaaaChecked
import GoSem.Claim
import GoSem.ClaimJoined
import GoSem.ClaimMapViews
import Derived.JoinedTies
import Derived.KernelRfl
namespace Go.Proofs.Ytojmjhojgfopaaa
/- THE CELL 'sum', in the pinned program and in every row, IS THE sha256 OF THE DUMP (.gsa) THAT YtojmjhojgfopaaaProg.lean LOADS. Nothing in Lean hashes anything: it is a label: what it is worth is what the hold of that sum in a sandbox is worth. -/
noncomputable def Try.pinned : Pinned := { name := "ytojmjhojgfopaaa", sum := "8b0ad5b367741d6e983095f884707d8b65e935820cc8406e924c89c715f390a2", checked := Try.checked }
namespace Rows
def none {H : Type} : Left H := { results := [], args := [] }

/-- 'laws.FnHomes': WHATEVER THE INPUT: true; the input reads as it did. -/
def fnHomesSpec : ChangeSpec := { name := "fnHomes", fn := fun _ => fun
  | [d1, d2] => { results := [.lit (.bool true)], args := [d1, d2] }
  | _ => none }
def fnHomesRow : OpenClaim := { program := "ytojmjhojgfopaaa", sum := "8b0ad5b367741d6e983095f884707d8b65e935820cc8406e924c89c715f390a2", func := "loop.example/opentables/laws.FnHomes", spec := "fnHomes", unfollowed := true, recurses := true, apart := false }
def FnHomesSaid : Prop := fnHomesRow.holds Try.pinned (OpenSpec.ofChange fnHomesSpec)

/-- ITS FALSE NEIGHBOUR: 'it returns false'. Refute it at one input. -/
def fnHomesWrong : ChangeSpec := { name := "fnHomes", fn := fun _ => fun
  | [d1, d2] => { results := [.lit (.bool false)], args := [d1, d2] }
  | _ => none }
def FnHomesWrongFalsely : Prop := fnHomesRow.holds Try.pinned (OpenSpec.ofChange fnHomesWrong)

/-- 'laws.FnExactNestValid': WHATEVER THE INPUT: true; the input reads as it did. -/
def fnExactNestValidSpec : ChangeSpec := { name := "fnExactNestValid", fn := fun _ => fun
  | [d] => { results := [.lit (.bool true)], args := [d] }
  | _ => none }
def fnExactNestValidRow : OpenClaim := { program := "ytojmjhojgfopaaa", sum := "8b0ad5b367741d6e983095f884707d8b65e935820cc8406e924c89c715f390a2", func := "loop.example/opentables/laws.FnExactNestValid", spec := "fnExactNestValid", unfollowed := true, recurses := true, apart := false }
def FnExactNestValidSaid : Prop := fnExactNestValidRow.holds Try.pinned (OpenSpec.ofChange fnExactNestValidSpec)

/-- ITS FALSE NEIGHBOUR: 'it returns false'. Refute it at one input. -/
def fnExactNestValidWrong : ChangeSpec := { name := "fnExactNestValid", fn := fun _ => fun
  | [d] => { results := [.lit (.bool false)], args := [d] }
  | _ => none }
def FnExactNestValidWrongFalsely : Prop := fnExactNestValidRow.holds Try.pinned (OpenSpec.ofChange fnExactNestValidWrong)

/-- 'laws.FnExactNewNest': WHATEVER THE INPUT: true; the input reads as it did. -/
def fnExactNewNestSpec : ChangeSpec := { name := "fnExactNewNest", fn := fun _ => fun
  | [d1, d2, d3, d4, d5] => { results := [.lit (.bool true)], args := [d1, d2, d3, d4, d5] }
  | _ => none }
def fnExactNewNestRow : OpenClaim := { program := "ytojmjhojgfopaaa", sum := "8b0ad5b367741d6e983095f884707d8b65e935820cc8406e924c89c715f390a2", func := "loop.example/opentables/laws.FnExactNewNest", spec := "fnExactNewNest", unfollowed := true, recurses := true, apart := false }
def FnExactNewNestSaid : Prop := fnExactNewNestRow.holds Try.pinned (OpenSpec.ofChange fnExactNewNestSpec)

/-- ITS FALSE NEIGHBOUR: 'it returns false'. Refute it at one input. -/
def fnExactNewNestWrong : ChangeSpec := { name := "fnExactNewNest", fn := fun _ => fun
  | [d1, d2, d3, d4, d5] => { results := [.lit (.bool false)], args := [d1, d2, d3, d4, d5] }
  | _ => none }
def FnExactNewNestWrongFalsely : Prop := fnExactNewNestRow.holds Try.pinned (OpenSpec.ofChange fnExactNewNestWrong)

/-- 'laws.FnExactHomesOf': WHATEVER THE INPUT: true; the input reads as it did. -/
def fnExactHomesOfSpec : ChangeSpec := { name := "fnExactHomesOf", fn := fun _ => fun
  | [d1, d2] => { results := [.lit (.bool true)], args := [d1, d2] }
  | _ => none }
def fnExactHomesOfRow : OpenClaim := { program := "ytojmjhojgfopaaa", sum := "8b0ad5b367741d6e983095f884707d8b65e935820cc8406e924c89c715f390a2", func := "loop.example/opentables/laws.FnExactHomesOf", spec := "fnExactHomesOf", unfollowed := true, recurses := true, apart := false }
def FnExactHomesOfSaid : Prop := fnExactHomesOfRow.holds Try.pinned (OpenSpec.ofChange fnExactHomesOfSpec)

/-- ITS FALSE NEIGHBOUR: 'it returns false'. Refute it at one input. -/
def fnExactHomesOfWrong : ChangeSpec := { name := "fnExactHomesOf", fn := fun _ => fun
  | [d1, d2] => { results := [.lit (.bool false)], args := [d1, d2] }
  | _ => none }
def FnExactHomesOfWrongFalsely : Prop := fnExactHomesOfRow.holds Try.pinned (OpenSpec.ofChange fnExactHomesOfWrong)

/-- 'laws.FnExactFindNest': WHATEVER THE INPUT: true; the input reads as it did. -/
def fnExactFindNestSpec : ChangeSpec := { name := "fnExactFindNest", fn := fun _ => fun
  | [d1, d2] => { results := [.lit (.bool true)], args := [d1, d2] }
  | _ => none }
def fnExactFindNestRow : OpenClaim := { program := "ytojmjhojgfopaaa", sum := "8b0ad5b367741d6e983095f884707d8b65e935820cc8406e924c89c715f390a2", func := "loop.example/opentables/laws.FnExactFindNest", spec := "fnExactFindNest", unfollowed := true, recurses := true, apart := false }
def FnExactFindNestSaid : Prop := fnExactFindNestRow.holds Try.pinned (OpenSpec.ofChange fnExactFindNestSpec)

/-- ITS FALSE NEIGHBOUR: 'it returns false'. Refute it at one input. -/
def fnExactFindNestWrong : ChangeSpec := { name := "fnExactFindNest", fn := fun _ => fun
  | [d1, d2] => { results := [.lit (.bool false)], args := [d1, d2] }
  | _ => none }
def FnExactFindNestWrongFalsely : Prop := fnExactFindNestRow.holds Try.pinned (OpenSpec.ofChange fnExactFindNestWrong)

/-- 'laws.FnExactPushKey': WHATEVER THE INPUT: true; the input reads as it did. -/
def fnExactPushKeySpec : ChangeSpec := { name := "fnExactPushKey", fn := fun _ => fun
  | [d1, d2] => { results := [.lit (.bool true)], args := [d1, d2] }
  | _ => none }
def fnExactPushKeyRow : OpenClaim := { program := "ytojmjhojgfopaaa", sum := "8b0ad5b367741d6e983095f884707d8b65e935820cc8406e924c89c715f390a2", func := "loop.example/opentables/laws.FnExactPushKey", spec := "fnExactPushKey", unfollowed := true, recurses := true, apart := false }
def FnExactPushKeySaid : Prop := fnExactPushKeyRow.holds Try.pinned (OpenSpec.ofChange fnExactPushKeySpec)

/-- ITS FALSE NEIGHBOUR: 'it returns false'. Refute it at one input. -/
def fnExactPushKeyWrong : ChangeSpec := { name := "fnExactPushKey", fn := fun _ => fun
  | [d1, d2] => { results := [.lit (.bool false)], args := [d1, d2] }
  | _ => none }
def FnExactPushKeyWrongFalsely : Prop := fnExactPushKeyRow.holds Try.pinned (OpenSpec.ofChange fnExactPushKeyWrong)

/-- 'laws.FnExactPushesBy': WHATEVER THE INPUT: true; the input reads as it did. -/
def fnExactPushesBySpec : ChangeSpec := { name := "fnExactPushesBy", fn := fun _ => fun
  | [d1, d2] => { results := [.lit (.bool true)], args := [d1, d2] }
  | _ => none }
def fnExactPushesByRow : OpenClaim := { program := "ytojmjhojgfopaaa", sum := "8b0ad5b367741d6e983095f884707d8b65e935820cc8406e924c89c715f390a2", func := "loop.example/opentables/laws.FnExactPushesBy", spec := "fnExactPushesBy", unfollowed := true, recurses := true, apart := false }
def FnExactPushesBySaid : Prop := fnExactPushesByRow.holds Try.pinned (OpenSpec.ofChange fnExactPushesBySpec)

/-- ITS FALSE NEIGHBOUR: 'it returns false'. Refute it at one input. -/
def fnExactPushesByWrong : ChangeSpec := { name := "fnExactPushesBy", fn := fun _ => fun
  | [d1, d2] => { results := [.lit (.bool false)], args := [d1, d2] }
  | _ => none }
def FnExactPushesByWrongFalsely : Prop := fnExactPushesByRow.holds Try.pinned (OpenSpec.ofChange fnExactPushesByWrong)

/-- 'laws.FnExactPullKey': WHATEVER THE INPUT: true; the input reads as it did. -/
def fnExactPullKeySpec : ChangeSpec := { name := "fnExactPullKey", fn := fun _ => fun
  | [d1, d2] => { results := [.lit (.bool true)], args := [d1, d2] }
  | _ => none }
def fnExactPullKeyRow : OpenClaim := { program := "ytojmjhojgfopaaa", sum := "8b0ad5b367741d6e983095f884707d8b65e935820cc8406e924c89c715f390a2", func := "loop.example/opentables/laws.FnExactPullKey", spec := "fnExactPullKey", unfollowed := true, recurses := true, apart := false }
def FnExactPullKeySaid : Prop := fnExactPullKeyRow.holds Try.pinned (OpenSpec.ofChange fnExactPullKeySpec)

/-- ITS FALSE NEIGHBOUR: 'it returns false'. Refute it at one input. -/
def fnExactPullKeyWrong : ChangeSpec := { name := "fnExactPullKey", fn := fun _ => fun
  | [d1, d2] => { results := [.lit (.bool false)], args := [d1, d2] }
  | _ => none }
def FnExactPullKeyWrongFalsely : Prop := fnExactPullKeyRow.holds Try.pinned (OpenSpec.ofChange fnExactPullKeyWrong)

/- THE SECOND FORM. 'bulk': how many values and letters a reading holds, each counted each time it is reached (what is shared counts as often as it is met; a slice's spare places count too). A statement '..UptoSaid' is the law's where the arguments, and the package variables that the reading takes, are together of bulk at most 1048576: NARROWER than '..Said'. Prove '..Said' where nothing that the law and all that it calls make is longer than what came in: it says more and counts as full. Else prove '..UptoSaid'. A law counts once. -/
mutual
def uptoBulk {H : Type} : DataW H → Nat
  | .lit (.string bytes) => bytes.length + 1
  | .lit _ => 1
  | .nil => 1
  | .ptr d => uptoBulk d + 1
  | .slice elems spare => uptoBulkAll elems + uptoBulkAll spare + 1
  | .agg parts => uptoBulkAll parts + 1
  | .iface _ d => uptoBulk d + 1
  | .map entries => uptoBulkEntries entries + 1
  | .held _ => 1
def uptoBulkAll {H : Type} : List (DataW H) → Nat
  | [] => 0
  | d :: r => uptoBulk d + uptoBulkAll r
def uptoBulkEntries {H : Type} : List (Lit × DataW H) → Nat
  | [] => 0
  | x :: r => uptoBulkEntry x + uptoBulkEntries r
def uptoBulkEntry {H : Type} : Lit × DataW H → Nat
  | (.string bytes, d) => bytes.length + uptoBulk d + 1
  | (_, d) => uptoBulk d + 1
 end
def uptoSmall : (H : Type) → List (DataW H) → Bool := fun _ ds => decide (uptoBulkAll ds ≤ 1048576)
def OpenSpec.upto (s : _root_.Go.ChangeSpec) : _root_.Go.OpenSpec := { _root_.Go.OpenSpec.ofChange s with cond := some uptoSmall }

/-- 'laws.FnHomes', WHERE WHAT IT READS IS OF BULK AT MOST 1048576: true; the input reads as it did. -/
def fnHomesUptoRow : OpenClaim := { program := "ytojmjhojgfopaaa", sum := "8b0ad5b367741d6e983095f884707d8b65e935820cc8406e924c89c715f390a2", func := "loop.example/opentables/laws.FnHomes", spec := "fnHomes", unfollowed := true, recurses := true, apart := false, narrowed := true }
def FnHomesUptoSaid : Prop := fnHomesUptoRow.holds Try.pinned (OpenSpec.upto fnHomesSpec)

/-- 'laws.FnExactNestValid', WHERE WHAT IT READS IS OF BULK AT MOST 1048576: true; the input reads as it did. -/
def fnExactNestValidUptoRow : OpenClaim := { program := "ytojmjhojgfopaaa", sum := "8b0ad5b367741d6e983095f884707d8b65e935820cc8406e924c89c715f390a2", func := "loop.example/opentables/laws.FnExactNestValid", spec := "fnExactNestValid", unfollowed := true, recurses := true, apart := false, narrowed := true }
def FnExactNestValidUptoSaid : Prop := fnExactNestValidUptoRow.holds Try.pinned (OpenSpec.upto fnExactNestValidSpec)

/-- 'laws.FnExactNewNest', WHERE WHAT IT READS IS OF BULK AT MOST 1048576: true; the input reads as it did. -/
def fnExactNewNestUptoRow : OpenClaim := { program := "ytojmjhojgfopaaa", sum := "8b0ad5b367741d6e983095f884707d8b65e935820cc8406e924c89c715f390a2", func := "loop.example/opentables/laws.FnExactNewNest", spec := "fnExactNewNest", unfollowed := true, recurses := true, apart := false, narrowed := true }
def FnExactNewNestUptoSaid : Prop := fnExactNewNestUptoRow.holds Try.pinned (OpenSpec.upto fnExactNewNestSpec)

/-- 'laws.FnExactHomesOf', WHERE WHAT IT READS IS OF BULK AT MOST 1048576: true; the input reads as it did. -/
def fnExactHomesOfUptoRow : OpenClaim := { program := "ytojmjhojgfopaaa", sum := "8b0ad5b367741d6e983095f884707d8b65e935820cc8406e924c89c715f390a2", func := "loop.example/opentables/laws.FnExactHomesOf", spec := "fnExactHomesOf", unfollowed := true, recurses := true, apart := false, narrowed := true }
def FnExactHomesOfUptoSaid : Prop := fnExactHomesOfUptoRow.holds Try.pinned (OpenSpec.upto fnExactHomesOfSpec)

/-- 'laws.FnExactFindNest', WHERE WHAT IT READS IS OF BULK AT MOST 1048576: true; the input reads as it did. -/
def fnExactFindNestUptoRow : OpenClaim := { program := "ytojmjhojgfopaaa", sum := "8b0ad5b367741d6e983095f884707d8b65e935820cc8406e924c89c715f390a2", func := "loop.example/opentables/laws.FnExactFindNest", spec := "fnExactFindNest", unfollowed := true, recurses := true, apart := false, narrowed := true }
def FnExactFindNestUptoSaid : Prop := fnExactFindNestUptoRow.holds Try.pinned (OpenSpec.upto fnExactFindNestSpec)

/-- 'laws.FnExactPushKey', WHERE WHAT IT READS IS OF BULK AT MOST 1048576: true; the input reads as it did. -/
def fnExactPushKeyUptoRow : OpenClaim := { program := "ytojmjhojgfopaaa", sum := "8b0ad5b367741d6e983095f884707d8b65e935820cc8406e924c89c715f390a2", func := "loop.example/opentables/laws.FnExactPushKey", spec := "fnExactPushKey", unfollowed := true, recurses := true, apart := false, narrowed := true }
def FnExactPushKeyUptoSaid : Prop := fnExactPushKeyUptoRow.holds Try.pinned (OpenSpec.upto fnExactPushKeySpec)

/-- 'laws.FnExactPushesBy', WHERE WHAT IT READS IS OF BULK AT MOST 1048576: true; the input reads as it did. -/
def fnExactPushesByUptoRow : OpenClaim := { program := "ytojmjhojgfopaaa", sum := "8b0ad5b367741d6e983095f884707d8b65e935820cc8406e924c89c715f390a2", func := "loop.example/opentables/laws.FnExactPushesBy", spec := "fnExactPushesBy", unfollowed := true, recurses := true, apart := false, narrowed := true }
def FnExactPushesByUptoSaid : Prop := fnExactPushesByUptoRow.holds Try.pinned (OpenSpec.upto fnExactPushesBySpec)

/-- 'laws.FnExactPullKey', WHERE WHAT IT READS IS OF BULK AT MOST 1048576: true; the input reads as it did. -/
def fnExactPullKeyUptoRow : OpenClaim := { program := "ytojmjhojgfopaaa", sum := "8b0ad5b367741d6e983095f884707d8b65e935820cc8406e924c89c715f390a2", func := "loop.example/opentables/laws.FnExactPullKey", spec := "fnExactPullKey", unfollowed := true, recurses := true, apart := false, narrowed := true }
def FnExactPullKeyUptoSaid : Prop := fnExactPullKeyUptoRow.holds Try.pinned (OpenSpec.upto fnExactPullKeySpec)

end Rows
end Go.Proofs.Ytojmjhojgfopaaa

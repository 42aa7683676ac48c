/-
  DERIVED. GIVEN WITH THE SEED: THE CARDS: each row of YtpbffdjiijpigaaDoorRows.lean that lists a variable, with what it lists TIED to the program's text (the seventh form; the later family's looks); each row that meets fmt, with fmt's text TOLD by the authors' own Lean function (tested against real Go, not proved from fmt's source: count such statements apart). THE CARD IS WHAT COUNTS. Prove the row's statement (the work); the ties are given (YtpbffdjiijpigaaDoorTie.lean); close each card by the builder's one call (the guide's Derived/Test/ToyasCard.lean, 'card_holds'). Laid BY PROGRAM, IN A SANDBOX (cutbox-door.mjs). By AI agents, Wed Nov 11 2026. No macro, syntax, notation, axiom, sorry.
-/
import Derived.Test.YtpbffdjiijpigaaDoorRows
import GoSem.ClaimSeven
namespace Go.Proofs.YtpbffdjiijpigaaDoor
namespace Rows

/-- THE TIED CARD OF 'laws.FnExactNeededTombs'. -/
def fnExactNeededTombsCard : Claim7 := { stood := { row := fnExactNeededTombsRow, standIns := [], harness := (true, "3a90d6c0c9ccad66ea4e055dc850a1fe40638c6a9d7b05eaeeaf849948a3d025"), looks := true }, kinds := [], alts := [], laidByText := true, laidKinds := [.data], laidTests := true, laidLooks := .later }
def FnExactNeededTombsCardSaid : Prop := Claim7.holds Tryd.pinned (.plain (OpenSpec.ofChange fnExactNeededTombsSpec)) fnExactNeededTombsCard

/-- THE SECOND FORM's CARD OF 'laws.FnExactNeededTombs'. -/
def fnExactNeededTombsUptoCard : Claim7 := { stood := { row := fnExactNeededTombsUptoRow, standIns := [], harness := (true, "3a90d6c0c9ccad66ea4e055dc850a1fe40638c6a9d7b05eaeeaf849948a3d025"), looks := true }, kinds := [], alts := [], laidByText := true, laidKinds := [.data], laidTests := true, laidLooks := .later }
def FnExactNeededTombsUptoCardSaid : Prop := Claim7.holds Tryd.pinned (.plain (OpenSpec.upto fnExactNeededTombsSpec)) fnExactNeededTombsUptoCard
end Rows
end Go.Proofs.YtpbffdjiijpigaaDoor

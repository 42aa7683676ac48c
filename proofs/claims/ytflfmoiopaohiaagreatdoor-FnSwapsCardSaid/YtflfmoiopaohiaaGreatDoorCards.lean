/-
  DERIVED. GIVEN WITH THE SEED: THE CARDS: each row of YtflfmoiopaohiaaGreatDoorRows.lean that lists a variable, with what it lists TIED to the program's text (the seventh form; the later family's looks); each row that meets fmt, with fmt's text TOLD by the authors' own Lean function (tested against real Go, not proved from fmt's source: count such statements apart). THE CARD IS WHAT COUNTS. Prove the row's statement (the work); the ties are given (YtflfmoiopaohiaaGreatDoorTie.lean); close each card by the builder's one call (the guide's Derived/Test/ToyasCard.lean, 'card_holds'). Laid BY PROGRAM, IN A SANDBOX (cutbox-door.mjs). By AI agents, Wed Nov 11 2026. No macro, syntax, notation, axiom, sorry.
-/
import Derived.Test.YtflfmoiopaohiaaGreatDoorRows
import GoSem.ClaimSeven
namespace Go.Proofs.YtflfmoiopaohiaaGreatDoor
namespace Rows

/-- THE TIED CARD OF 'laws.FnFairRuns'. -/
def fnFairRunsCard : Claim7 := { stood := { row := fnFairRunsRow, standIns := [], harness := (true, "0b1c953e4b91c4b4b7370a4fe15b60069c0fb5b16725bce4367362d1fa8162cd"), looks := true }, kinds := [], alts := [], laidByText := true, laidKinds := [.handle], laidTests := true, laidLooks := .later }
def FnFairRunsCardSaid : Prop := Claim7.holds Tryz.pinned (.plain (OpenSpec.ofChange fnFairRunsSpec)) fnFairRunsCard

/-- THE TIED CARD OF 'laws.FnSwaps'. -/
def fnSwapsCard : Claim7 := { stood := { row := fnSwapsRow, standIns := [], harness := (true, "0b1c953e4b91c4b4b7370a4fe15b60069c0fb5b16725bce4367362d1fa8162cd"), looks := true }, kinds := [], alts := [], laidByText := true, laidKinds := [.handle], laidTests := true, laidLooks := .later }
def FnSwapsCardSaid : Prop := Claim7.holds Tryz.pinned (.plain (OpenSpec.ofChange fnSwapsSpec)) fnSwapsCard

/-- THE TIED CARD OF 'laws.FnExactFairOf'. -/
def fnExactFairOfCard : Claim7 := { stood := { row := fnExactFairOfRow, standIns := [], harness := (true, "0b1c953e4b91c4b4b7370a4fe15b60069c0fb5b16725bce4367362d1fa8162cd"), looks := true }, kinds := [], alts := [], laidByText := true, laidKinds := [.handle], laidTests := true, laidLooks := .later }
def FnExactFairOfCardSaid : Prop := Claim7.holds Tryz.pinned (.plain (OpenSpec.ofChange fnExactFairOfSpec)) fnExactFairOfCard

/-- THE SECOND FORM's CARD OF 'laws.FnFairRuns'. -/
def fnFairRunsUptoCard : Claim7 := { stood := { row := fnFairRunsUptoRow, standIns := [], harness := (true, "0b1c953e4b91c4b4b7370a4fe15b60069c0fb5b16725bce4367362d1fa8162cd"), looks := true }, kinds := [], alts := [], laidByText := true, laidKinds := [.handle], laidTests := true, laidLooks := .later }
def FnFairRunsUptoCardSaid : Prop := Claim7.holds Tryz.pinned (.plain (OpenSpec.upto fnFairRunsSpec)) fnFairRunsUptoCard

/-- THE SECOND FORM's CARD OF 'laws.FnSwaps'. -/
def fnSwapsUptoCard : Claim7 := { stood := { row := fnSwapsUptoRow, standIns := [], harness := (true, "0b1c953e4b91c4b4b7370a4fe15b60069c0fb5b16725bce4367362d1fa8162cd"), looks := true }, kinds := [], alts := [], laidByText := true, laidKinds := [.handle], laidTests := true, laidLooks := .later }
def FnSwapsUptoCardSaid : Prop := Claim7.holds Tryz.pinned (.plain (OpenSpec.upto fnSwapsSpec)) fnSwapsUptoCard

/-- THE SECOND FORM's CARD OF 'laws.FnExactFairOf'. -/
def fnExactFairOfUptoCard : Claim7 := { stood := { row := fnExactFairOfUptoRow, standIns := [], harness := (true, "0b1c953e4b91c4b4b7370a4fe15b60069c0fb5b16725bce4367362d1fa8162cd"), looks := true }, kinds := [], alts := [], laidByText := true, laidKinds := [.handle], laidTests := true, laidLooks := .later }
def FnExactFairOfUptoCardSaid : Prop := Claim7.holds Tryz.pinned (.plain (OpenSpec.upto fnExactFairOfSpec)) fnExactFairOfUptoCard
end Rows
end Go.Proofs.YtflfmoiopaohiaaGreatDoor

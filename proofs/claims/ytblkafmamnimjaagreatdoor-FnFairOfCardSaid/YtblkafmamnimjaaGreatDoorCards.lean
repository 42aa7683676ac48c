/-
  DERIVED. GIVEN WITH THE SEED: THE CARDS: each row of YtblkafmamnimjaaGreatDoorRows.lean that lists a variable, with what it lists TIED to the program's text (the seventh form; the later family's looks); each row that meets fmt, with fmt's text TOLD by the authors' own Lean function (tested against real Go, not proved from fmt's source: count such statements apart). THE CARD IS WHAT COUNTS. Prove the row's statement (the work); the ties are given (YtblkafmamnimjaaGreatDoorTie.lean); close each card by the builder's one call (the guide's Derived/Test/ToyasCard.lean, 'card_holds'). Laid BY PROGRAM, IN A SANDBOX (cutbox-door.mjs). By AI agents, Wed Nov 11 2026. No macro, syntax, notation, axiom, sorry.
-/
import Derived.Test.YtblkafmamnimjaaGreatDoorRows
import GoSem.ClaimSeven
namespace Go.Proofs.YtblkafmamnimjaaGreatDoor
namespace Rows

/-- THE TIED CARD OF 'laws.FnIsFair'. -/
def fnIsFairCard : Claim7 := { stood := { row := fnIsFairRow, standIns := [], harness := (true, "f2caa6b50ed10387a2d13b8a54334cd483a1267110bbb5bd9239af94350e6f2c"), looks := true }, kinds := [], alts := [], laidByText := true, laidKinds := [.handle], laidTests := true, laidLooks := .later }
def FnIsFairCardSaid : Prop := Claim7.holds Tryz.pinned (.plain (OpenSpec.ofChange fnIsFairSpec)) fnIsFairCard

/-- THE TIED CARD OF 'laws.FnFairOf'. -/
def fnFairOfCard : Claim7 := { stood := { row := fnFairOfRow, standIns := [], harness := (true, "f2caa6b50ed10387a2d13b8a54334cd483a1267110bbb5bd9239af94350e6f2c"), looks := true }, kinds := [], alts := [], laidByText := true, laidKinds := [.handle], laidTests := true, laidLooks := .later }
def FnFairOfCardSaid : Prop := Claim7.holds Tryz.pinned (.plain (OpenSpec.ofChange fnFairOfSpec)) fnFairOfCard

/-- THE TIED CARD OF 'laws.FnFairSame'. -/
def fnFairSameCard : Claim7 := { stood := { row := fnFairSameRow, standIns := [], harness := (true, "f2caa6b50ed10387a2d13b8a54334cd483a1267110bbb5bd9239af94350e6f2c"), looks := true }, kinds := [], alts := [], laidByText := true, laidKinds := [.handle], laidTests := true, laidLooks := .later }
def FnFairSameCardSaid : Prop := Claim7.holds Tryz.pinned (.plain (OpenSpec.ofChange fnFairSameSpec)) fnFairSameCard

/-- THE TIED CARD OF 'laws.FnFairParts'. -/
def fnFairPartsCard : Claim7 := { stood := { row := fnFairPartsRow, standIns := [], harness := (true, "f2caa6b50ed10387a2d13b8a54334cd483a1267110bbb5bd9239af94350e6f2c"), looks := true }, kinds := [], alts := [], laidByText := true, laidKinds := [.handle], laidTests := true, laidLooks := .later }
def FnFairPartsCardSaid : Prop := Claim7.holds Tryz.pinned (.plain (OpenSpec.ofChange fnFairPartsSpec)) fnFairPartsCard

/-- THE SECOND FORM's CARD OF 'laws.FnIsFair'. -/
def fnIsFairUptoCard : Claim7 := { stood := { row := fnIsFairUptoRow, standIns := [], harness := (true, "f2caa6b50ed10387a2d13b8a54334cd483a1267110bbb5bd9239af94350e6f2c"), looks := true }, kinds := [], alts := [], laidByText := true, laidKinds := [.handle], laidTests := true, laidLooks := .later }
def FnIsFairUptoCardSaid : Prop := Claim7.holds Tryz.pinned (.plain (OpenSpec.upto fnIsFairSpec)) fnIsFairUptoCard

/-- THE SECOND FORM's CARD OF 'laws.FnFairOf'. -/
def fnFairOfUptoCard : Claim7 := { stood := { row := fnFairOfUptoRow, standIns := [], harness := (true, "f2caa6b50ed10387a2d13b8a54334cd483a1267110bbb5bd9239af94350e6f2c"), looks := true }, kinds := [], alts := [], laidByText := true, laidKinds := [.handle], laidTests := true, laidLooks := .later }
def FnFairOfUptoCardSaid : Prop := Claim7.holds Tryz.pinned (.plain (OpenSpec.upto fnFairOfSpec)) fnFairOfUptoCard

/-- THE SECOND FORM's CARD OF 'laws.FnFairSame'. -/
def fnFairSameUptoCard : Claim7 := { stood := { row := fnFairSameUptoRow, standIns := [], harness := (true, "f2caa6b50ed10387a2d13b8a54334cd483a1267110bbb5bd9239af94350e6f2c"), looks := true }, kinds := [], alts := [], laidByText := true, laidKinds := [.handle], laidTests := true, laidLooks := .later }
def FnFairSameUptoCardSaid : Prop := Claim7.holds Tryz.pinned (.plain (OpenSpec.upto fnFairSameSpec)) fnFairSameUptoCard

/-- THE SECOND FORM's CARD OF 'laws.FnFairParts'. -/
def fnFairPartsUptoCard : Claim7 := { stood := { row := fnFairPartsUptoRow, standIns := [], harness := (true, "f2caa6b50ed10387a2d13b8a54334cd483a1267110bbb5bd9239af94350e6f2c"), looks := true }, kinds := [], alts := [], laidByText := true, laidKinds := [.handle], laidTests := true, laidLooks := .later }
def FnFairPartsUptoCardSaid : Prop := Claim7.holds Tryz.pinned (.plain (OpenSpec.upto fnFairPartsSpec)) fnFairPartsUptoCard
end Rows
end Go.Proofs.YtblkafmamnimjaaGreatDoor

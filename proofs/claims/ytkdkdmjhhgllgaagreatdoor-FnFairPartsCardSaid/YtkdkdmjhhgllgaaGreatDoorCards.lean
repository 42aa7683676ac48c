/-
  DERIVED. GIVEN WITH THE SEED: THE CARDS: each row of YtkdkdmjhhgllgaaGreatDoorRows.lean that lists a variable, with what it lists TIED to the program's text (the seventh form; the later family's looks); each row that meets fmt, with fmt's text TOLD by the authors' own Lean function (tested against real Go, not proved from fmt's source: count such statements apart). THE CARD IS WHAT COUNTS. Prove the row's statement (the work); the ties are given (YtkdkdmjhhgllgaaGreatDoorTie.lean); close each card by the builder's one call (the guide's Derived/Test/ToyasCard.lean, 'card_holds'). Laid BY PROGRAM, IN A SANDBOX (cutbox-door.mjs). By AI agents, Wed Nov 11 2026. No macro, syntax, notation, axiom, sorry.
-/
import Derived.Test.YtkdkdmjhhgllgaaGreatDoorRows
import GoSem.ClaimSeven
namespace Go.Proofs.YtkdkdmjhhgllgaaGreatDoor
namespace Rows

/-- THE TIED CARD OF 'laws.FnFairSame'. -/
def fnFairSameCard : Claim7 := { stood := { row := fnFairSameRow, standIns := [], harness := (true, "3f40447c688577d235cc54ac030db01a76c3ecc2c3c2dee5ddd2ba869e283f42"), looks := true }, kinds := [], alts := [], laidByText := true, laidKinds := [.handle], laidTests := true, laidLooks := .later }
def FnFairSameCardSaid : Prop := Claim7.holds Tryz.pinned (.plain (OpenSpec.ofChange fnFairSameSpec)) fnFairSameCard

/-- THE TIED CARD OF 'laws.FnFairParts'. -/
def fnFairPartsCard : Claim7 := { stood := { row := fnFairPartsRow, standIns := [], harness := (true, "3f40447c688577d235cc54ac030db01a76c3ecc2c3c2dee5ddd2ba869e283f42"), looks := true }, kinds := [], alts := [], laidByText := true, laidKinds := [.handle], laidTests := true, laidLooks := .later }
def FnFairPartsCardSaid : Prop := Claim7.holds Tryz.pinned (.plain (OpenSpec.ofChange fnFairPartsSpec)) fnFairPartsCard

/-- THE SECOND FORM's CARD OF 'laws.FnFairSame'. -/
def fnFairSameUptoCard : Claim7 := { stood := { row := fnFairSameUptoRow, standIns := [], harness := (true, "3f40447c688577d235cc54ac030db01a76c3ecc2c3c2dee5ddd2ba869e283f42"), looks := true }, kinds := [], alts := [], laidByText := true, laidKinds := [.handle], laidTests := true, laidLooks := .later }
def FnFairSameUptoCardSaid : Prop := Claim7.holds Tryz.pinned (.plain (OpenSpec.upto fnFairSameSpec)) fnFairSameUptoCard

/-- THE SECOND FORM's CARD OF 'laws.FnFairParts'. -/
def fnFairPartsUptoCard : Claim7 := { stood := { row := fnFairPartsUptoRow, standIns := [], harness := (true, "3f40447c688577d235cc54ac030db01a76c3ecc2c3c2dee5ddd2ba869e283f42"), looks := true }, kinds := [], alts := [], laidByText := true, laidKinds := [.handle], laidTests := true, laidLooks := .later }
def FnFairPartsUptoCardSaid : Prop := Claim7.holds Tryz.pinned (.plain (OpenSpec.upto fnFairPartsSpec)) fnFairPartsUptoCard
end Rows
end Go.Proofs.YtkdkdmjhhgllgaaGreatDoor

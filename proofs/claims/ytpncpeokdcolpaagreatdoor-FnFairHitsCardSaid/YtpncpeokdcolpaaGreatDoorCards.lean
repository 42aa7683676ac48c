/-
  DERIVED. GIVEN WITH THE SEED: THE CARDS: each row of YtpncpeokdcolpaaGreatDoorRows.lean that lists a variable, with what it lists TIED to the program's text (the seventh form; the later family's looks); each row that meets fmt, with fmt's text TOLD by the authors' own Lean function (tested against real Go, not proved from fmt's source: count such statements apart). THE CARD IS WHAT COUNTS. Prove the row's statement (the work); the ties are given (YtpncpeokdcolpaaGreatDoorTie.lean); close each card by the builder's one call (the guide's Derived/Test/ToyasCard.lean, 'card_holds'). Laid BY PROGRAM, IN A SANDBOX (cutbox-door.mjs). By AI agents, Wed Nov 11 2026. No macro, syntax, notation, axiom, sorry.
-/
import Derived.Test.YtpncpeokdcolpaaGreatDoorRows
import GoSem.ClaimSeven
namespace Go.Proofs.YtpncpeokdcolpaaGreatDoor
namespace Rows

/-- THE TIED CARD OF 'laws.FnExactFairMiss'. -/
def fnExactFairMissCard : Claim7 := { stood := { row := fnExactFairMissRow, standIns := [], harness := (true, "3e7df400cd7b5df09b840bfd8343369f2f616dbfa4538dd0b56605790df22a06"), looks := true }, kinds := [], alts := [], laidByText := true, laidKinds := [.handle], laidTests := true, laidLooks := .later }
def FnExactFairMissCardSaid : Prop := Claim7.holds Tryz.pinned (.plain (OpenSpec.ofChange fnExactFairMissSpec)) fnExactFairMissCard

/-- THE TIED CARD OF 'laws.FnFairMiss'. -/
def fnFairMissCard : Claim7 := { stood := { row := fnFairMissRow, standIns := [], harness := (true, "3e7df400cd7b5df09b840bfd8343369f2f616dbfa4538dd0b56605790df22a06"), looks := true }, kinds := [], alts := [], laidByText := true, laidKinds := [.handle], laidTests := true, laidLooks := .later }
def FnFairMissCardSaid : Prop := Claim7.holds Tryz.pinned (.plain (OpenSpec.ofChange fnFairMissSpec)) fnFairMissCard

/-- THE TIED CARD OF 'laws.FnMoreMisses'. -/
def fnMoreMissesCard : Claim7 := { stood := { row := fnMoreMissesRow, standIns := [], harness := (true, "3e7df400cd7b5df09b840bfd8343369f2f616dbfa4538dd0b56605790df22a06"), looks := true }, kinds := [], alts := [], laidByText := true, laidKinds := [.handle], laidTests := true, laidLooks := .later }
def FnMoreMissesCardSaid : Prop := Claim7.holds Tryz.pinned (.plain (OpenSpec.ofChange fnMoreMissesSpec)) fnMoreMissesCard

/-- THE TIED CARD OF 'laws.FnFairHits'. -/
def fnFairHitsCard : Claim7 := { stood := { row := fnFairHitsRow, standIns := [], harness := (true, "3e7df400cd7b5df09b840bfd8343369f2f616dbfa4538dd0b56605790df22a06"), looks := true }, kinds := [], alts := [], laidByText := true, laidKinds := [.handle], laidTests := true, laidLooks := .later }
def FnFairHitsCardSaid : Prop := Claim7.holds Tryz.pinned (.plain (OpenSpec.ofChange fnFairHitsSpec)) fnFairHitsCard

/-- THE TIED CARD OF 'laws.FnShiftClean'. -/
def fnShiftCleanCard : Claim7 := { stood := { row := fnShiftCleanRow, standIns := [], harness := (true, "3e7df400cd7b5df09b840bfd8343369f2f616dbfa4538dd0b56605790df22a06"), looks := true }, kinds := [], alts := [], laidByText := true, laidKinds := [.handle], laidTests := true, laidLooks := .later }
def FnShiftCleanCardSaid : Prop := Claim7.holds Tryz.pinned (.plain (OpenSpec.ofChange fnShiftCleanSpec)) fnShiftCleanCard

/-- THE SECOND FORM's CARD OF 'laws.FnExactFairMiss'. -/
def fnExactFairMissUptoCard : Claim7 := { stood := { row := fnExactFairMissUptoRow, standIns := [], harness := (true, "3e7df400cd7b5df09b840bfd8343369f2f616dbfa4538dd0b56605790df22a06"), looks := true }, kinds := [], alts := [], laidByText := true, laidKinds := [.handle], laidTests := true, laidLooks := .later }
def FnExactFairMissUptoCardSaid : Prop := Claim7.holds Tryz.pinned (.plain (OpenSpec.upto fnExactFairMissSpec)) fnExactFairMissUptoCard

/-- THE SECOND FORM's CARD OF 'laws.FnFairMiss'. -/
def fnFairMissUptoCard : Claim7 := { stood := { row := fnFairMissUptoRow, standIns := [], harness := (true, "3e7df400cd7b5df09b840bfd8343369f2f616dbfa4538dd0b56605790df22a06"), looks := true }, kinds := [], alts := [], laidByText := true, laidKinds := [.handle], laidTests := true, laidLooks := .later }
def FnFairMissUptoCardSaid : Prop := Claim7.holds Tryz.pinned (.plain (OpenSpec.upto fnFairMissSpec)) fnFairMissUptoCard

/-- THE SECOND FORM's CARD OF 'laws.FnMoreMisses'. -/
def fnMoreMissesUptoCard : Claim7 := { stood := { row := fnMoreMissesUptoRow, standIns := [], harness := (true, "3e7df400cd7b5df09b840bfd8343369f2f616dbfa4538dd0b56605790df22a06"), looks := true }, kinds := [], alts := [], laidByText := true, laidKinds := [.handle], laidTests := true, laidLooks := .later }
def FnMoreMissesUptoCardSaid : Prop := Claim7.holds Tryz.pinned (.plain (OpenSpec.upto fnMoreMissesSpec)) fnMoreMissesUptoCard

/-- THE SECOND FORM's CARD OF 'laws.FnFairHits'. -/
def fnFairHitsUptoCard : Claim7 := { stood := { row := fnFairHitsUptoRow, standIns := [], harness := (true, "3e7df400cd7b5df09b840bfd8343369f2f616dbfa4538dd0b56605790df22a06"), looks := true }, kinds := [], alts := [], laidByText := true, laidKinds := [.handle], laidTests := true, laidLooks := .later }
def FnFairHitsUptoCardSaid : Prop := Claim7.holds Tryz.pinned (.plain (OpenSpec.upto fnFairHitsSpec)) fnFairHitsUptoCard

/-- THE SECOND FORM's CARD OF 'laws.FnShiftClean'. -/
def fnShiftCleanUptoCard : Claim7 := { stood := { row := fnShiftCleanUptoRow, standIns := [], harness := (true, "3e7df400cd7b5df09b840bfd8343369f2f616dbfa4538dd0b56605790df22a06"), looks := true }, kinds := [], alts := [], laidByText := true, laidKinds := [.handle], laidTests := true, laidLooks := .later }
def FnShiftCleanUptoCardSaid : Prop := Claim7.holds Tryz.pinned (.plain (OpenSpec.upto fnShiftCleanSpec)) fnShiftCleanUptoCard
end Rows
end Go.Proofs.YtpncpeokdcolpaaGreatDoor

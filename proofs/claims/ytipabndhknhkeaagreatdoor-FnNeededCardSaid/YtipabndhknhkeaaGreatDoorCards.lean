/-
  DERIVED. GIVEN WITH THE SEED: THE CARDS: each row of YtipabndhknhkeaaGreatDoorRows.lean that lists a variable, with what it lists TIED to the program's text (the seventh form; the later family's looks); each row that meets fmt, with fmt's text TOLD by the authors' own Lean function (tested against real Go, not proved from fmt's source: count such statements apart). THE CARD IS WHAT COUNTS. Prove the row's statement (the work); the ties are given (YtipabndhknhkeaaGreatDoorTie.lean); close each card by the builder's one call (the guide's Derived/Test/ToyasCard.lean, 'card_holds'). Laid BY PROGRAM, IN A SANDBOX (cutbox-door.mjs). By AI agents, Wed Nov 11 2026. No macro, syntax, notation, axiom, sorry.
-/
import Derived.Test.YtipabndhknhkeaaGreatDoorRows
import GoSem.ClaimSeven
namespace Go.Proofs.YtipabndhknhkeaaGreatDoor
namespace Rows

/-- THE TIED CARD OF 'laws.FnExactMovesBy'. -/
def fnExactMovesByCard : Claim7 := { stood := { row := fnExactMovesByRow, standIns := [], harness := (true, "e1760780b395edc1892cfb2937f6499a0808eea3fae8af2d395f2204a89d3532"), looks := true }, kinds := [], alts := [], laidByText := true, laidKinds := [.handle], laidTests := true, laidLooks := .later }
def FnExactMovesByCardSaid : Prop := Claim7.holds Tryz.pinned (.plain (OpenSpec.ofChange fnExactMovesBySpec)) fnExactMovesByCard

/-- THE TIED CARD OF 'laws.FnExactDropShift'. -/
def fnExactDropShiftCard : Claim7 := { stood := { row := fnExactDropShiftRow, standIns := [], harness := (true, "e1760780b395edc1892cfb2937f6499a0808eea3fae8af2d395f2204a89d3532"), looks := true }, kinds := [], alts := [], laidByText := true, laidKinds := [.handle], laidTests := true, laidLooks := .later }
def FnExactDropShiftCardSaid : Prop := Claim7.holds Tryz.pinned (.plain (OpenSpec.ofChange fnExactDropShiftSpec)) fnExactDropShiftCard

/-- THE TIED CARD OF 'laws.FnExactShiftAll'. -/
def fnExactShiftAllCard : Claim7 := { stood := { row := fnExactShiftAllRow, standIns := [], harness := (true, "e1760780b395edc1892cfb2937f6499a0808eea3fae8af2d395f2204a89d3532"), looks := true }, kinds := [], alts := [], laidByText := true, laidKinds := [.handle], laidTests := true, laidLooks := .later }
def FnExactShiftAllCardSaid : Prop := Claim7.holds Tryz.pinned (.plain (OpenSpec.ofChange fnExactShiftAllSpec)) fnExactShiftAllCard

/-- THE TIED CARD OF 'laws.FnShiftBack'. -/
def fnShiftBackCard : Claim7 := { stood := { row := fnShiftBackRow, standIns := [], harness := (true, "e1760780b395edc1892cfb2937f6499a0808eea3fae8af2d395f2204a89d3532"), looks := true }, kinds := [], alts := [], laidByText := true, laidKinds := [.handle], laidTests := true, laidLooks := .later }
def FnShiftBackCardSaid : Prop := Claim7.holds Tryz.pinned (.plain (OpenSpec.ofChange fnShiftBackSpec)) fnShiftBackCard

/-- THE TIED CARD OF 'laws.FnNeeded'. -/
def fnNeededCard : Claim7 := { stood := { row := fnNeededRow, standIns := [], harness := (true, "e1760780b395edc1892cfb2937f6499a0808eea3fae8af2d395f2204a89d3532"), looks := true }, kinds := [], alts := [], laidByText := true, laidKinds := [.data], laidTests := true, laidLooks := .later }
def FnNeededCardSaid : Prop := Claim7.holds Tryz.pinned (.plain (OpenSpec.ofChange fnNeededSpec)) fnNeededCard

/-- THE SECOND FORM's CARD OF 'laws.FnExactMovesBy'. -/
def fnExactMovesByUptoCard : Claim7 := { stood := { row := fnExactMovesByUptoRow, standIns := [], harness := (true, "e1760780b395edc1892cfb2937f6499a0808eea3fae8af2d395f2204a89d3532"), looks := true }, kinds := [], alts := [], laidByText := true, laidKinds := [.handle], laidTests := true, laidLooks := .later }
def FnExactMovesByUptoCardSaid : Prop := Claim7.holds Tryz.pinned (.plain (OpenSpec.upto fnExactMovesBySpec)) fnExactMovesByUptoCard

/-- THE SECOND FORM's CARD OF 'laws.FnExactDropShift'. -/
def fnExactDropShiftUptoCard : Claim7 := { stood := { row := fnExactDropShiftUptoRow, standIns := [], harness := (true, "e1760780b395edc1892cfb2937f6499a0808eea3fae8af2d395f2204a89d3532"), looks := true }, kinds := [], alts := [], laidByText := true, laidKinds := [.handle], laidTests := true, laidLooks := .later }
def FnExactDropShiftUptoCardSaid : Prop := Claim7.holds Tryz.pinned (.plain (OpenSpec.upto fnExactDropShiftSpec)) fnExactDropShiftUptoCard

/-- THE SECOND FORM's CARD OF 'laws.FnExactShiftAll'. -/
def fnExactShiftAllUptoCard : Claim7 := { stood := { row := fnExactShiftAllUptoRow, standIns := [], harness := (true, "e1760780b395edc1892cfb2937f6499a0808eea3fae8af2d395f2204a89d3532"), looks := true }, kinds := [], alts := [], laidByText := true, laidKinds := [.handle], laidTests := true, laidLooks := .later }
def FnExactShiftAllUptoCardSaid : Prop := Claim7.holds Tryz.pinned (.plain (OpenSpec.upto fnExactShiftAllSpec)) fnExactShiftAllUptoCard

/-- THE SECOND FORM's CARD OF 'laws.FnShiftBack'. -/
def fnShiftBackUptoCard : Claim7 := { stood := { row := fnShiftBackUptoRow, standIns := [], harness := (true, "e1760780b395edc1892cfb2937f6499a0808eea3fae8af2d395f2204a89d3532"), looks := true }, kinds := [], alts := [], laidByText := true, laidKinds := [.handle], laidTests := true, laidLooks := .later }
def FnShiftBackUptoCardSaid : Prop := Claim7.holds Tryz.pinned (.plain (OpenSpec.upto fnShiftBackSpec)) fnShiftBackUptoCard

/-- THE SECOND FORM's CARD OF 'laws.FnNeeded'. -/
def fnNeededUptoCard : Claim7 := { stood := { row := fnNeededUptoRow, standIns := [], harness := (true, "e1760780b395edc1892cfb2937f6499a0808eea3fae8af2d395f2204a89d3532"), looks := true }, kinds := [], alts := [], laidByText := true, laidKinds := [.data], laidTests := true, laidLooks := .later }
def FnNeededUptoCardSaid : Prop := Claim7.holds Tryz.pinned (.plain (OpenSpec.upto fnNeededSpec)) fnNeededUptoCard
end Rows
end Go.Proofs.YtipabndhknhkeaaGreatDoor

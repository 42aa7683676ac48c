/-
  DERIVED. GIVEN WITH THE SEED: THE CARDS: each row of YtjhdlbcgnhkbhaaGreatDoorRows.lean that lists a variable, with what it lists TIED to the program's text (the seventh form; the later family's looks); each row that meets fmt, with fmt's text TOLD by the authors' own Lean function (tested against real Go, not proved from fmt's source: count such statements apart). THE CARD IS WHAT COUNTS. Prove the row's statement (the work); the ties are given (YtjhdlbcgnhkbhaaGreatDoorTie.lean); close each card by the builder's one call (the guide's Derived/Test/ToyasCard.lean, 'card_holds'). Laid BY PROGRAM, IN A SANDBOX (cutbox-door.mjs). By AI agents, Wed Nov 11 2026. No macro, syntax, notation, axiom, sorry.
-/
import Derived.Test.YtjhdlbcgnhkbhaaGreatDoorRows
import GoSem.ClaimSeven
namespace Go.Proofs.YtjhdlbcgnhkbhaaGreatDoor
namespace Rows

/-- THE TIED CARD OF 'laws.FnExactFindIn'. -/
def fnExactFindInCard : Claim7 := { stood := { row := fnExactFindInRow, standIns := [], harness := (true, "32cc278575ad71c183c570c1bd4f42d544119be13bfaa4458469092b464b5e65"), looks := true }, kinds := [], alts := [], laidByText := true, laidKinds := [.handle], laidTests := true, laidLooks := .later }
def FnExactFindInCardSaid : Prop := Claim7.holds Tryz.pinned (.plain (OpenSpec.ofChange fnExactFindInSpec)) fnExactFindInCard

/-- THE TIED CARD OF 'laws.FnExactDropIn'. -/
def fnExactDropInCard : Claim7 := { stood := { row := fnExactDropInRow, standIns := [], harness := (true, "32cc278575ad71c183c570c1bd4f42d544119be13bfaa4458469092b464b5e65"), looks := true }, kinds := [], alts := [], laidByText := true, laidKinds := [.handle], laidTests := true, laidLooks := .later }
def FnExactDropInCardSaid : Prop := Claim7.holds Tryz.pinned (.plain (OpenSpec.ofChange fnExactDropInSpec)) fnExactDropInCard

/-- THE TIED CARD OF 'laws.FnExactFormatMove'. -/
def fnExactFormatMoveCard : Claim7 := { stood := { row := fnExactFormatMoveRow, standIns := [], harness := (true, "32cc278575ad71c183c570c1bd4f42d544119be13bfaa4458469092b464b5e65"), looks := true }, kinds := [], alts := [], laidByText := true, laidKinds := [.data, .data, .data], laidTests := true, laidLooks := .later }
def FnExactFormatMoveCardSaid : Prop := Claim7.holds Tryz.pinned (.plain (OpenSpec.ofChange fnExactFormatMoveSpec)) fnExactFormatMoveCard

/-- THE SECOND FORM's CARD OF 'laws.FnExactFindIn'. -/
def fnExactFindInUptoCard : Claim7 := { stood := { row := fnExactFindInUptoRow, standIns := [], harness := (true, "32cc278575ad71c183c570c1bd4f42d544119be13bfaa4458469092b464b5e65"), looks := true }, kinds := [], alts := [], laidByText := true, laidKinds := [.handle], laidTests := true, laidLooks := .later }
def FnExactFindInUptoCardSaid : Prop := Claim7.holds Tryz.pinned (.plain (OpenSpec.upto fnExactFindInSpec)) fnExactFindInUptoCard

/-- THE SECOND FORM's CARD OF 'laws.FnExactDropIn'. -/
def fnExactDropInUptoCard : Claim7 := { stood := { row := fnExactDropInUptoRow, standIns := [], harness := (true, "32cc278575ad71c183c570c1bd4f42d544119be13bfaa4458469092b464b5e65"), looks := true }, kinds := [], alts := [], laidByText := true, laidKinds := [.handle], laidTests := true, laidLooks := .later }
def FnExactDropInUptoCardSaid : Prop := Claim7.holds Tryz.pinned (.plain (OpenSpec.upto fnExactDropInSpec)) fnExactDropInUptoCard

/-- THE SECOND FORM's CARD OF 'laws.FnExactFormatMove'. -/
def fnExactFormatMoveUptoCard : Claim7 := { stood := { row := fnExactFormatMoveUptoRow, standIns := [], harness := (true, "32cc278575ad71c183c570c1bd4f42d544119be13bfaa4458469092b464b5e65"), looks := true }, kinds := [], alts := [], laidByText := true, laidKinds := [.data, .data, .data], laidTests := true, laidLooks := .later }
def FnExactFormatMoveUptoCardSaid : Prop := Claim7.holds Tryz.pinned (.plain (OpenSpec.upto fnExactFormatMoveSpec)) fnExactFormatMoveUptoCard
end Rows
end Go.Proofs.YtjhdlbcgnhkbhaaGreatDoor

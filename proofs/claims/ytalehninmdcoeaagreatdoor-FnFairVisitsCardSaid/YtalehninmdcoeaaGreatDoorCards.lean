/-
  DERIVED. GIVEN WITH THE SEED: THE CARDS: each row of YtalehninmdcoeaaGreatDoorRows.lean that lists a variable, with what it lists TIED to the program's text (the seventh form; the later family's looks); each row that meets fmt, with fmt's text TOLD by the authors' own Lean function (tested against real Go, not proved from fmt's source: count such statements apart). THE CARD IS WHAT COUNTS. Prove the row's statement (the work); the ties are given (YtalehninmdcoeaaGreatDoorTie.lean); close each card by the builder's one call (the guide's Derived/Test/ToyasCard.lean, 'card_holds'). Laid BY PROGRAM, IN A SANDBOX (cutbox-door.mjs). By AI agents, Wed Nov 11 2026. No macro, syntax, notation, axiom, sorry.
-/
import Derived.Test.YtalehninmdcoeaaGreatDoorRows
import GoSem.ClaimSeven
namespace Go.Proofs.YtalehninmdcoeaaGreatDoor
namespace Rows

/-- THE TIED CARD OF 'laws.FnFairVisits'. -/
def fnFairVisitsCard : Claim7 := { stood := { row := fnFairVisitsRow, standIns := [], harness := (true, "71b933244861f1e652678e10cd7422727a643e98a06642a93c341250ef834463"), looks := true }, kinds := [], alts := [], laidByText := true, laidKinds := [.handle], laidTests := true, laidLooks := .later }
def FnFairVisitsCardSaid : Prop := Claim7.holds Tryz.pinned (.plain (OpenSpec.ofChange fnFairVisitsSpec)) fnFairVisitsCard

/-- THE TIED CARD OF 'laws.FnExactMakeOrder'. -/
def fnExactMakeOrderCard : Claim7 := { stood := { row := fnExactMakeOrderRow, standIns := [], harness := (true, "71b933244861f1e652678e10cd7422727a643e98a06642a93c341250ef834463"), looks := true }, kinds := [], alts := [], laidByText := true, laidKinds := [.handle], laidTests := true, laidLooks := .later }
def FnExactMakeOrderCardSaid : Prop := Claim7.holds Tryz.pinned (.plain (OpenSpec.ofChange fnExactMakeOrderSpec)) fnExactMakeOrderCard

/-- THE TIED CARD OF 'laws.FnExactIsMade'. -/
def fnExactIsMadeCard : Claim7 := { stood := { row := fnExactIsMadeRow, standIns := [], harness := (true, "71b933244861f1e652678e10cd7422727a643e98a06642a93c341250ef834463"), looks := true }, kinds := [], alts := [], laidByText := true, laidKinds := [.handle], laidTests := true, laidLooks := .later }
def FnExactIsMadeCardSaid : Prop := Claim7.holds Tryz.pinned (.plain (OpenSpec.ofChange fnExactIsMadeSpec)) fnExactIsMadeCard

/-- THE TIED CARD OF 'laws.FnDropShift'. -/
def fnDropShiftCard : Claim7 := { stood := { row := fnDropShiftRow, standIns := [], harness := (true, "71b933244861f1e652678e10cd7422727a643e98a06642a93c341250ef834463"), looks := true }, kinds := [], alts := [], laidByText := true, laidKinds := [.handle], laidTests := true, laidLooks := .later }
def FnDropShiftCardSaid : Prop := Claim7.holds Tryz.pinned (.plain (OpenSpec.ofChange fnDropShiftSpec)) fnDropShiftCard

/-- THE TIED CARD OF 'laws.FnShiftAll'. -/
def fnShiftAllCard : Claim7 := { stood := { row := fnShiftAllRow, standIns := [], harness := (true, "71b933244861f1e652678e10cd7422727a643e98a06642a93c341250ef834463"), looks := true }, kinds := [], alts := [], laidByText := true, laidKinds := [.handle], laidTests := true, laidLooks := .later }
def FnShiftAllCardSaid : Prop := Claim7.holds Tryz.pinned (.plain (OpenSpec.ofChange fnShiftAllSpec)) fnShiftAllCard

/-- THE TIED CARD OF 'laws.FnAtHome'. -/
def fnAtHomeCard : Claim7 := { stood := { row := fnAtHomeRow, standIns := [], harness := (true, "71b933244861f1e652678e10cd7422727a643e98a06642a93c341250ef834463"), looks := true }, kinds := [], alts := [], laidByText := true, laidKinds := [.handle], laidTests := true, laidLooks := .later }
def FnAtHomeCardSaid : Prop := Claim7.holds Tryz.pinned (.plain (OpenSpec.ofChange fnAtHomeSpec)) fnAtHomeCard

/-- THE TIED CARD OF 'laws.FnFairTurned'. -/
def fnFairTurnedCard : Claim7 := { stood := { row := fnFairTurnedRow, standIns := [], harness := (true, "71b933244861f1e652678e10cd7422727a643e98a06642a93c341250ef834463"), looks := true }, kinds := [], alts := [], laidByText := true, laidKinds := [.handle], laidTests := true, laidLooks := .later }
def FnFairTurnedCardSaid : Prop := Claim7.holds Tryz.pinned (.plain (OpenSpec.ofChange fnFairTurnedSpec)) fnFairTurnedCard

/-- THE TIED CARD OF 'laws.FnShiftTurned'. -/
def fnShiftTurnedCard : Claim7 := { stood := { row := fnShiftTurnedRow, standIns := [], harness := (true, "71b933244861f1e652678e10cd7422727a643e98a06642a93c341250ef834463"), looks := true }, kinds := [], alts := [], laidByText := true, laidKinds := [.handle], laidTests := true, laidLooks := .later }
def FnShiftTurnedCardSaid : Prop := Claim7.holds Tryz.pinned (.plain (OpenSpec.ofChange fnShiftTurnedSpec)) fnShiftTurnedCard

/-- THE SECOND FORM's CARD OF 'laws.FnFairVisits'. -/
def fnFairVisitsUptoCard : Claim7 := { stood := { row := fnFairVisitsUptoRow, standIns := [], harness := (true, "71b933244861f1e652678e10cd7422727a643e98a06642a93c341250ef834463"), looks := true }, kinds := [], alts := [], laidByText := true, laidKinds := [.handle], laidTests := true, laidLooks := .later }
def FnFairVisitsUptoCardSaid : Prop := Claim7.holds Tryz.pinned (.plain (OpenSpec.upto fnFairVisitsSpec)) fnFairVisitsUptoCard

/-- THE SECOND FORM's CARD OF 'laws.FnExactMakeOrder'. -/
def fnExactMakeOrderUptoCard : Claim7 := { stood := { row := fnExactMakeOrderUptoRow, standIns := [], harness := (true, "71b933244861f1e652678e10cd7422727a643e98a06642a93c341250ef834463"), looks := true }, kinds := [], alts := [], laidByText := true, laidKinds := [.handle], laidTests := true, laidLooks := .later }
def FnExactMakeOrderUptoCardSaid : Prop := Claim7.holds Tryz.pinned (.plain (OpenSpec.upto fnExactMakeOrderSpec)) fnExactMakeOrderUptoCard

/-- THE SECOND FORM's CARD OF 'laws.FnExactIsMade'. -/
def fnExactIsMadeUptoCard : Claim7 := { stood := { row := fnExactIsMadeUptoRow, standIns := [], harness := (true, "71b933244861f1e652678e10cd7422727a643e98a06642a93c341250ef834463"), looks := true }, kinds := [], alts := [], laidByText := true, laidKinds := [.handle], laidTests := true, laidLooks := .later }
def FnExactIsMadeUptoCardSaid : Prop := Claim7.holds Tryz.pinned (.plain (OpenSpec.upto fnExactIsMadeSpec)) fnExactIsMadeUptoCard

/-- THE SECOND FORM's CARD OF 'laws.FnDropShift'. -/
def fnDropShiftUptoCard : Claim7 := { stood := { row := fnDropShiftUptoRow, standIns := [], harness := (true, "71b933244861f1e652678e10cd7422727a643e98a06642a93c341250ef834463"), looks := true }, kinds := [], alts := [], laidByText := true, laidKinds := [.handle], laidTests := true, laidLooks := .later }
def FnDropShiftUptoCardSaid : Prop := Claim7.holds Tryz.pinned (.plain (OpenSpec.upto fnDropShiftSpec)) fnDropShiftUptoCard

/-- THE SECOND FORM's CARD OF 'laws.FnShiftAll'. -/
def fnShiftAllUptoCard : Claim7 := { stood := { row := fnShiftAllUptoRow, standIns := [], harness := (true, "71b933244861f1e652678e10cd7422727a643e98a06642a93c341250ef834463"), looks := true }, kinds := [], alts := [], laidByText := true, laidKinds := [.handle], laidTests := true, laidLooks := .later }
def FnShiftAllUptoCardSaid : Prop := Claim7.holds Tryz.pinned (.plain (OpenSpec.upto fnShiftAllSpec)) fnShiftAllUptoCard

/-- THE SECOND FORM's CARD OF 'laws.FnAtHome'. -/
def fnAtHomeUptoCard : Claim7 := { stood := { row := fnAtHomeUptoRow, standIns := [], harness := (true, "71b933244861f1e652678e10cd7422727a643e98a06642a93c341250ef834463"), looks := true }, kinds := [], alts := [], laidByText := true, laidKinds := [.handle], laidTests := true, laidLooks := .later }
def FnAtHomeUptoCardSaid : Prop := Claim7.holds Tryz.pinned (.plain (OpenSpec.upto fnAtHomeSpec)) fnAtHomeUptoCard

/-- THE SECOND FORM's CARD OF 'laws.FnFairTurned'. -/
def fnFairTurnedUptoCard : Claim7 := { stood := { row := fnFairTurnedUptoRow, standIns := [], harness := (true, "71b933244861f1e652678e10cd7422727a643e98a06642a93c341250ef834463"), looks := true }, kinds := [], alts := [], laidByText := true, laidKinds := [.handle], laidTests := true, laidLooks := .later }
def FnFairTurnedUptoCardSaid : Prop := Claim7.holds Tryz.pinned (.plain (OpenSpec.upto fnFairTurnedSpec)) fnFairTurnedUptoCard

/-- THE SECOND FORM's CARD OF 'laws.FnShiftTurned'. -/
def fnShiftTurnedUptoCard : Claim7 := { stood := { row := fnShiftTurnedUptoRow, standIns := [], harness := (true, "71b933244861f1e652678e10cd7422727a643e98a06642a93c341250ef834463"), looks := true }, kinds := [], alts := [], laidByText := true, laidKinds := [.handle], laidTests := true, laidLooks := .later }
def FnShiftTurnedUptoCardSaid : Prop := Claim7.holds Tryz.pinned (.plain (OpenSpec.upto fnShiftTurnedSpec)) fnShiftTurnedUptoCard
end Rows
end Go.Proofs.YtalehninmdcoeaaGreatDoor

/-
  DERIVED. GIVEN WITH THE SEED: THE CARDS: each row of YtdoodkdlfkekmaaGreatDoorRows.lean that lists a variable, with what it lists TIED to the program's text (the seventh form; the later family's looks); each row that meets fmt, with fmt's text TOLD by the authors' own Lean function (tested against real Go, not proved from fmt's source: count such statements apart). THE CARD IS WHAT COUNTS. Prove the row's statement (the work); the ties are given (YtdoodkdlfkekmaaGreatDoorTie.lean); close each card by the builder's one call (the guide's Derived/Test/ToyasCard.lean, 'card_holds'). Laid BY PROGRAM, IN A SANDBOX (cutbox-door.mjs). By AI agents, Wed Nov 11 2026. No macro, syntax, notation, axiom, sorry.
-/
import Derived.Test.YtdoodkdlfkekmaaGreatDoorRows
import GoSem.ClaimSeven
namespace Go.Proofs.YtdoodkdlfkekmaaGreatDoor
namespace Rows

/-- THE TIED CARD OF 'laws.FnExactFairVisits'. -/
def fnExactFairVisitsCard : Claim7 := { stood := { row := fnExactFairVisitsRow, standIns := [], harness := (true, "f11a86a461f98d78c91cb1aa84493c7184f9e7173fb3dc69dc668e6fa61b2107"), looks := true }, kinds := [], alts := [], laidByText := true, laidKinds := [.handle], laidTests := true, laidLooks := .later }
def FnExactFairVisitsCardSaid : Prop := Claim7.holds Tryz.pinned (.plain (OpenSpec.ofChange fnExactFairVisitsSpec)) fnExactFairVisitsCard

/-- THE TIED CARD OF 'laws.FnExactFairPut'. -/
def fnExactFairPutCard : Claim7 := { stood := { row := fnExactFairPutRow, standIns := [], harness := (true, "f11a86a461f98d78c91cb1aa84493c7184f9e7173fb3dc69dc668e6fa61b2107"), looks := true }, kinds := [], alts := [], laidByText := true, laidKinds := [.handle], laidTests := true, laidLooks := .later }
def FnExactFairPutCardSaid : Prop := Claim7.holds Tryz.pinned (.plain (OpenSpec.ofChange fnExactFairPutSpec)) fnExactFairPutCard

/-- THE TIED CARD OF 'laws.FnExactSwapsBy'. -/
def fnExactSwapsByCard : Claim7 := { stood := { row := fnExactSwapsByRow, standIns := [], harness := (true, "f11a86a461f98d78c91cb1aa84493c7184f9e7173fb3dc69dc668e6fa61b2107"), looks := true }, kinds := [], alts := [], laidByText := true, laidKinds := [.handle], laidTests := true, laidLooks := .later }
def FnExactSwapsByCardSaid : Prop := Claim7.holds Tryz.pinned (.plain (OpenSpec.ofChange fnExactSwapsBySpec)) fnExactSwapsByCard

/-- THE TIED CARD OF 'laws.FnExactFairAll'. -/
def fnExactFairAllCard : Claim7 := { stood := { row := fnExactFairAllRow, standIns := [], harness := (true, "f11a86a461f98d78c91cb1aa84493c7184f9e7173fb3dc69dc668e6fa61b2107"), looks := true }, kinds := [], alts := [], laidByText := true, laidKinds := [.handle], laidTests := true, laidLooks := .later }
def FnExactFairAllCardSaid : Prop := Claim7.holds Tryz.pinned (.plain (OpenSpec.ofChange fnExactFairAllSpec)) fnExactFairAllCard

/-- THE TIED CARD OF 'laws.FnExactFairDrop'. -/
def fnExactFairDropCard : Claim7 := { stood := { row := fnExactFairDropRow, standIns := [], harness := (true, "f11a86a461f98d78c91cb1aa84493c7184f9e7173fb3dc69dc668e6fa61b2107"), looks := true }, kinds := [], alts := [], laidByText := true, laidKinds := [.handle], laidTests := true, laidLooks := .later }
def FnExactFairDropCardSaid : Prop := Claim7.holds Tryz.pinned (.plain (OpenSpec.ofChange fnExactFairDropSpec)) fnExactFairDropCard

/-- THE TIED CARD OF 'laws.FnExactFairOf'. -/
def fnExactFairOfCard : Claim7 := { stood := { row := fnExactFairOfRow, standIns := [], harness := (true, "f11a86a461f98d78c91cb1aa84493c7184f9e7173fb3dc69dc668e6fa61b2107"), looks := true }, kinds := [], alts := [], laidByText := true, laidKinds := [.handle], laidTests := true, laidLooks := .later }
def FnExactFairOfCardSaid : Prop := Claim7.holds Tryz.pinned (.plain (OpenSpec.ofChange fnExactFairOfSpec)) fnExactFairOfCard

/-- THE TIED CARD OF 'laws.FnFairVisits'. -/
def fnFairVisitsCard : Claim7 := { stood := { row := fnFairVisitsRow, standIns := [], harness := (true, "f11a86a461f98d78c91cb1aa84493c7184f9e7173fb3dc69dc668e6fa61b2107"), looks := true }, kinds := [], alts := [], laidByText := true, laidKinds := [.handle], laidTests := true, laidLooks := .later }
def FnFairVisitsCardSaid : Prop := Claim7.holds Tryz.pinned (.plain (OpenSpec.ofChange fnFairVisitsSpec)) fnFairVisitsCard

/-- THE TIED CARD OF 'laws.FnFairRuns'. -/
def fnFairRunsCard : Claim7 := { stood := { row := fnFairRunsRow, standIns := [], harness := (true, "f11a86a461f98d78c91cb1aa84493c7184f9e7173fb3dc69dc668e6fa61b2107"), looks := true }, kinds := [], alts := [], laidByText := true, laidKinds := [.handle], laidTests := true, laidLooks := .later }
def FnFairRunsCardSaid : Prop := Claim7.holds Tryz.pinned (.plain (OpenSpec.ofChange fnFairRunsSpec)) fnFairRunsCard

/-- THE SECOND FORM's CARD OF 'laws.FnExactFairVisits'. -/
def fnExactFairVisitsUptoCard : Claim7 := { stood := { row := fnExactFairVisitsUptoRow, standIns := [], harness := (true, "f11a86a461f98d78c91cb1aa84493c7184f9e7173fb3dc69dc668e6fa61b2107"), looks := true }, kinds := [], alts := [], laidByText := true, laidKinds := [.handle], laidTests := true, laidLooks := .later }
def FnExactFairVisitsUptoCardSaid : Prop := Claim7.holds Tryz.pinned (.plain (OpenSpec.upto fnExactFairVisitsSpec)) fnExactFairVisitsUptoCard

/-- THE SECOND FORM's CARD OF 'laws.FnExactFairPut'. -/
def fnExactFairPutUptoCard : Claim7 := { stood := { row := fnExactFairPutUptoRow, standIns := [], harness := (true, "f11a86a461f98d78c91cb1aa84493c7184f9e7173fb3dc69dc668e6fa61b2107"), looks := true }, kinds := [], alts := [], laidByText := true, laidKinds := [.handle], laidTests := true, laidLooks := .later }
def FnExactFairPutUptoCardSaid : Prop := Claim7.holds Tryz.pinned (.plain (OpenSpec.upto fnExactFairPutSpec)) fnExactFairPutUptoCard

/-- THE SECOND FORM's CARD OF 'laws.FnExactSwapsBy'. -/
def fnExactSwapsByUptoCard : Claim7 := { stood := { row := fnExactSwapsByUptoRow, standIns := [], harness := (true, "f11a86a461f98d78c91cb1aa84493c7184f9e7173fb3dc69dc668e6fa61b2107"), looks := true }, kinds := [], alts := [], laidByText := true, laidKinds := [.handle], laidTests := true, laidLooks := .later }
def FnExactSwapsByUptoCardSaid : Prop := Claim7.holds Tryz.pinned (.plain (OpenSpec.upto fnExactSwapsBySpec)) fnExactSwapsByUptoCard

/-- THE SECOND FORM's CARD OF 'laws.FnExactFairAll'. -/
def fnExactFairAllUptoCard : Claim7 := { stood := { row := fnExactFairAllUptoRow, standIns := [], harness := (true, "f11a86a461f98d78c91cb1aa84493c7184f9e7173fb3dc69dc668e6fa61b2107"), looks := true }, kinds := [], alts := [], laidByText := true, laidKinds := [.handle], laidTests := true, laidLooks := .later }
def FnExactFairAllUptoCardSaid : Prop := Claim7.holds Tryz.pinned (.plain (OpenSpec.upto fnExactFairAllSpec)) fnExactFairAllUptoCard

/-- THE SECOND FORM's CARD OF 'laws.FnExactFairDrop'. -/
def fnExactFairDropUptoCard : Claim7 := { stood := { row := fnExactFairDropUptoRow, standIns := [], harness := (true, "f11a86a461f98d78c91cb1aa84493c7184f9e7173fb3dc69dc668e6fa61b2107"), looks := true }, kinds := [], alts := [], laidByText := true, laidKinds := [.handle], laidTests := true, laidLooks := .later }
def FnExactFairDropUptoCardSaid : Prop := Claim7.holds Tryz.pinned (.plain (OpenSpec.upto fnExactFairDropSpec)) fnExactFairDropUptoCard

/-- THE SECOND FORM's CARD OF 'laws.FnExactFairOf'. -/
def fnExactFairOfUptoCard : Claim7 := { stood := { row := fnExactFairOfUptoRow, standIns := [], harness := (true, "f11a86a461f98d78c91cb1aa84493c7184f9e7173fb3dc69dc668e6fa61b2107"), looks := true }, kinds := [], alts := [], laidByText := true, laidKinds := [.handle], laidTests := true, laidLooks := .later }
def FnExactFairOfUptoCardSaid : Prop := Claim7.holds Tryz.pinned (.plain (OpenSpec.upto fnExactFairOfSpec)) fnExactFairOfUptoCard

/-- THE SECOND FORM's CARD OF 'laws.FnFairVisits'. -/
def fnFairVisitsUptoCard : Claim7 := { stood := { row := fnFairVisitsUptoRow, standIns := [], harness := (true, "f11a86a461f98d78c91cb1aa84493c7184f9e7173fb3dc69dc668e6fa61b2107"), looks := true }, kinds := [], alts := [], laidByText := true, laidKinds := [.handle], laidTests := true, laidLooks := .later }
def FnFairVisitsUptoCardSaid : Prop := Claim7.holds Tryz.pinned (.plain (OpenSpec.upto fnFairVisitsSpec)) fnFairVisitsUptoCard

/-- THE SECOND FORM's CARD OF 'laws.FnFairRuns'. -/
def fnFairRunsUptoCard : Claim7 := { stood := { row := fnFairRunsUptoRow, standIns := [], harness := (true, "f11a86a461f98d78c91cb1aa84493c7184f9e7173fb3dc69dc668e6fa61b2107"), looks := true }, kinds := [], alts := [], laidByText := true, laidKinds := [.handle], laidTests := true, laidLooks := .later }
def FnFairRunsUptoCardSaid : Prop := Claim7.holds Tryz.pinned (.plain (OpenSpec.upto fnFairRunsSpec)) fnFairRunsUptoCard
end Rows
end Go.Proofs.YtdoodkdlfkekmaaGreatDoor

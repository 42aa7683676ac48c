/-
  DERIVED. GIVEN WITH THE SEED: THE CARDS: each row of YtdoodkdlfkekmaaDoorRows.lean that lists a variable, with what it lists TIED to the program's text (the seventh form; the later family's looks); each row that meets fmt, with fmt's text TOLD by the authors' own Lean function (tested against real Go, not proved from fmt's source: count such statements apart). THE CARD IS WHAT COUNTS. Prove the row's statement (the work); the ties are given (YtdoodkdlfkekmaaDoorTie.lean); close each card by the builder's one call (the guide's Derived/Test/ToyasCard.lean, 'card_holds'). Laid BY PROGRAM, IN A SANDBOX (cutbox-door.mjs). By AI agents, Wed Nov 11 2026. No macro, syntax, notation, axiom, sorry.
-/
import Derived.Test.YtdoodkdlfkekmaaDoorRows
import GoSem.ClaimSeven
namespace Go.Proofs.YtdoodkdlfkekmaaDoor
namespace Rows

/-- THE TIED CARD OF 'laws.FnExactIsFair'. -/
def fnExactIsFairCard : Claim7 := { stood := { row := fnExactIsFairRow, standIns := [], harness := (true, "886d18dbd09d41e9c79dd1c9033f89cb2e831922fc7d164f7f65632d72cca940"), looks := true }, kinds := [], alts := [], laidByText := true, laidKinds := [.handle], laidTests := true, laidLooks := .later }
def FnExactIsFairCardSaid : Prop := Claim7.holds Tryd.pinned (.plain (OpenSpec.ofChange fnExactIsFairSpec)) fnExactIsFairCard

/-- THE SECOND FORM's CARD OF 'laws.FnExactIsFair'. -/
def fnExactIsFairUptoCard : Claim7 := { stood := { row := fnExactIsFairUptoRow, standIns := [], harness := (true, "886d18dbd09d41e9c79dd1c9033f89cb2e831922fc7d164f7f65632d72cca940"), looks := true }, kinds := [], alts := [], laidByText := true, laidKinds := [.handle], laidTests := true, laidLooks := .later }
def FnExactIsFairUptoCardSaid : Prop := Claim7.holds Tryd.pinned (.plain (OpenSpec.upto fnExactIsFairSpec)) fnExactIsFairUptoCard
end Rows
end Go.Proofs.YtdoodkdlfkekmaaDoor

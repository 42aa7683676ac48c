/-
  DERIVED. GIVEN WITH THE SEED: THE CARDS: each row of YtpncpeokdcolpaaDoorRows.lean that lists a variable, with what it lists TIED to the program's text (the seventh form; the later family's looks); each row that meets fmt, with fmt's text TOLD by the authors' own Lean function (tested against real Go, not proved from fmt's source: count such statements apart). THE CARD IS WHAT COUNTS. Prove the row's statement (the work); the ties are given (YtpncpeokdcolpaaDoorTie.lean); close each card by the builder's one call (the guide's Derived/Test/ToyasCard.lean, 'card_holds'). Laid BY PROGRAM, IN A SANDBOX (cutbox-door.mjs). By AI agents, Wed Nov 11 2026. No macro, syntax, notation, axiom, sorry.
-/
import Derived.Test.YtpncpeokdcolpaaDoorRows
import GoSem.ClaimSeven
namespace Go.Proofs.YtpncpeokdcolpaaDoor
namespace Rows

/-- THE TIED CARD OF 'laws.FnMissAt'. -/
def fnMissAtCard : Claim7 := { stood := { row := fnMissAtRow, standIns := [], harness := (true, "1cb325dedf62dc6a101d637dc1d263466b4ef56a60c53764dc8da752ff54581e"), looks := true }, kinds := [], alts := [], laidByText := true, laidKinds := [.handle], laidTests := true, laidLooks := .later }
def FnMissAtCardSaid : Prop := Claim7.holds Tryd.pinned (.plain (OpenSpec.ofChange fnMissAtSpec)) fnMissAtCard

/-- THE SECOND FORM's CARD OF 'laws.FnMissAt'. -/
def fnMissAtUptoCard : Claim7 := { stood := { row := fnMissAtUptoRow, standIns := [], harness := (true, "1cb325dedf62dc6a101d637dc1d263466b4ef56a60c53764dc8da752ff54581e"), looks := true }, kinds := [], alts := [], laidByText := true, laidKinds := [.handle], laidTests := true, laidLooks := .later }
def FnMissAtUptoCardSaid : Prop := Claim7.holds Tryd.pinned (.plain (OpenSpec.upto fnMissAtSpec)) fnMissAtUptoCard
end Rows
end Go.Proofs.YtpncpeokdcolpaaDoor

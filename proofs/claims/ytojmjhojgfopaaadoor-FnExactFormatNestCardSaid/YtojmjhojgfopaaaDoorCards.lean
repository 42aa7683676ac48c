/-
  DERIVED. GIVEN WITH THE SEED: THE CARDS: each row of YtojmjhojgfopaaaDoorRows.lean that lists a variable, with what it lists TIED to the program's text (the seventh form; the later family's looks); each row that meets fmt, with fmt's text TOLD by the authors' own Lean function (tested against real Go, not proved from fmt's source: count such statements apart). THE CARD IS WHAT COUNTS. Prove the row's statement (the work); the ties are given (YtojmjhojgfopaaaDoorTie.lean); close each card by the builder's one call (the guide's Derived/Test/ToyasCard.lean, 'card_holds'). Laid BY PROGRAM, IN A SANDBOX (cutbox-door.mjs). By AI agents, Wed Nov 11 2026. No macro, syntax, notation, axiom, sorry.
-/
import Derived.Test.YtojmjhojgfopaaaDoorRows
import GoSem.ClaimSeven
namespace Go.Proofs.YtojmjhojgfopaaaDoor
namespace Rows

/-- THE TIED CARD OF 'laws.FnExactFormatNest'. -/
def fnExactFormatNestCard : Claim7 := { stood := { row := fnExactFormatNestRow, standIns := [], harness := (true, "1036f69f13338eaef7bf20b43daaa37e1b4fd368228224dccb52d1a27e26a3aa"), looks := false }, kinds := [], alts := [], laidByText := true, laidKinds := [.data, .data, .data], laidTests := true, laidLooks := .later }
def FnExactFormatNestCardSaid : Prop := Claim7.holds Tryd.pinned (.plain (OpenSpec.ofChange fnExactFormatNestSpec)) fnExactFormatNestCard

/-- THE SECOND FORM's CARD OF 'laws.FnExactFormatNest'. -/
def fnExactFormatNestUptoCard : Claim7 := { stood := { row := fnExactFormatNestUptoRow, standIns := [], harness := (true, "1036f69f13338eaef7bf20b43daaa37e1b4fd368228224dccb52d1a27e26a3aa"), looks := false }, kinds := [], alts := [], laidByText := true, laidKinds := [.data, .data, .data], laidTests := true, laidLooks := .later }
def FnExactFormatNestUptoCardSaid : Prop := Claim7.holds Tryd.pinned (.plain (OpenSpec.upto fnExactFormatNestSpec)) fnExactFormatNestUptoCard
end Rows
end Go.Proofs.YtojmjhojgfopaaaDoor

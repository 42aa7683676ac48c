/-
  DERIVED. GIVEN WITH THE SEED: THE CARDS: each row of YtfkdandmedojpaaDoorRows.lean that lists a variable, with what it lists TIED to the program's text (the seventh form; the later family's looks); each row that meets fmt, with fmt's text TOLD by the authors' own Lean function (tested against real Go, not proved from fmt's source: count such statements apart). THE CARD IS WHAT COUNTS. Prove the row's statement (the work); the ties are given (YtfkdandmedojpaaDoorTie.lean); close each card by the builder's one call (the guide's Derived/Test/ToyasCard.lean, 'card_holds'). Laid BY PROGRAM, IN A SANDBOX (cutbox-door.mjs). By AI agents, Wed Nov 11 2026. No macro, syntax, notation, axiom, sorry.
-/
import Derived.Test.YtfkdandmedojpaaDoorRows
import GoSem.ClaimSeven
namespace Go.Proofs.YtfkdandmedojpaaDoor
namespace Rows

/-- THE TIED CARD OF 'laws.FnFound'. -/
def fnFoundCard : Claim7 := { stood := { row := fnFoundRow, standIns := [], harness := (true, "bb7f7eaa5f5cb417111263f43ffe4f2c34f75792506973cdf812c243b1b6f29f"), looks := true }, kinds := [], alts := [], laidByText := true, laidKinds := [.handle], laidTests := true, laidLooks := .later }
def FnFoundCardSaid : Prop := Claim7.holds Tryd.pinned (.plain (OpenSpec.ofChange fnFoundSpec)) fnFoundCard

/-- THE TIED CARD OF 'laws.FnPlace'. -/
def fnPlaceCard : Claim7 := { stood := { row := fnPlaceRow, standIns := [], harness := (true, "bb7f7eaa5f5cb417111263f43ffe4f2c34f75792506973cdf812c243b1b6f29f"), looks := true }, kinds := [], alts := [], laidByText := true, laidKinds := [.handle], laidTests := true, laidLooks := .later }
def FnPlaceCardSaid : Prop := Claim7.holds Tryd.pinned (.plain (OpenSpec.ofChange fnPlaceSpec)) fnPlaceCard

/-- THE TIED CARD OF 'laws.FnTurnedFind'. -/
def fnTurnedFindCard : Claim7 := { stood := { row := fnTurnedFindRow, standIns := [], harness := (true, "bb7f7eaa5f5cb417111263f43ffe4f2c34f75792506973cdf812c243b1b6f29f"), looks := true }, kinds := [], alts := [], laidByText := true, laidKinds := [.handle], laidTests := true, laidLooks := .later }
def FnTurnedFindCardSaid : Prop := Claim7.holds Tryd.pinned (.plain (OpenSpec.ofChange fnTurnedFindSpec)) fnTurnedFindCard

/-- THE SECOND FORM's CARD OF 'laws.FnFound'. -/
def fnFoundUptoCard : Claim7 := { stood := { row := fnFoundUptoRow, standIns := [], harness := (true, "bb7f7eaa5f5cb417111263f43ffe4f2c34f75792506973cdf812c243b1b6f29f"), looks := true }, kinds := [], alts := [], laidByText := true, laidKinds := [.handle], laidTests := true, laidLooks := .later }
def FnFoundUptoCardSaid : Prop := Claim7.holds Tryd.pinned (.plain (OpenSpec.upto fnFoundSpec)) fnFoundUptoCard

/-- THE SECOND FORM's CARD OF 'laws.FnPlace'. -/
def fnPlaceUptoCard : Claim7 := { stood := { row := fnPlaceUptoRow, standIns := [], harness := (true, "bb7f7eaa5f5cb417111263f43ffe4f2c34f75792506973cdf812c243b1b6f29f"), looks := true }, kinds := [], alts := [], laidByText := true, laidKinds := [.handle], laidTests := true, laidLooks := .later }
def FnPlaceUptoCardSaid : Prop := Claim7.holds Tryd.pinned (.plain (OpenSpec.upto fnPlaceSpec)) fnPlaceUptoCard

/-- THE SECOND FORM's CARD OF 'laws.FnTurnedFind'. -/
def fnTurnedFindUptoCard : Claim7 := { stood := { row := fnTurnedFindUptoRow, standIns := [], harness := (true, "bb7f7eaa5f5cb417111263f43ffe4f2c34f75792506973cdf812c243b1b6f29f"), looks := true }, kinds := [], alts := [], laidByText := true, laidKinds := [.handle], laidTests := true, laidLooks := .later }
def FnTurnedFindUptoCardSaid : Prop := Claim7.holds Tryd.pinned (.plain (OpenSpec.upto fnTurnedFindSpec)) fnTurnedFindUptoCard
end Rows
end Go.Proofs.YtfkdandmedojpaaDoor

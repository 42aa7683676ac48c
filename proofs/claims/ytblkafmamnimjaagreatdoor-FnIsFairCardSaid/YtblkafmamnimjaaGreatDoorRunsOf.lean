/-
  RunsOf of the model.
-/
import Derived.Test.YtblkafmamnimjaaGreatDoorRuns
namespace Go.Proofs.YtblkafmamnimjaaGreatDoor
open Go.RowKit

/-- RunsOf of the document. -/
def runsOf (T : Tab) : List (Nat × Nat) := if validB T then runsL T else []

theorem ownsRow_base {w : World} {base base' : Nat} {e : TypeId} {size : Nat} {v : Value} {n : Nat} {xs : List Value} (h : w.ownsRow base e size v n xs) (hb : base' ≤ base) : w.ownsRow base' e size v n xs := by
  refine ⟨h.1, ?_⟩
  rcases h.2 with h2 | ⟨g, cap, cur, hv, hg, rest⟩
  · exact .inl h2
  · exact .inr ⟨g, cap, cur, hv, Nat.le_trans hb hg, rest⟩

end Go.Proofs.YtblkafmamnimjaaGreatDoor

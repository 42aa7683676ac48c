/-
  Bytes that came in, as the draws ask of them.
-/
import Derived.Test.YtpncpeokdcolpaaOpenC
namespace Go.Proofs.Ytpncpeokdcolpaa
open Go.RowKit

/-- Bytes that came in are what the draws ask. -/
theorem came_of {w : World} {a : Option Addr} {len cap : Nat} {zs : List Int} (h : IsRow .u8 w a len cap zs) :
    ∃ ys : List Int, len = ys.length ∧ Came cap ys ∧ St w w [It.bytes w.heap.size a ys] := by
  have hlc : len ≤ cap ∧ cap ≤ maxLen := by
    rcases h with ⟨_, h1, h2, _⟩ | ⟨_, _, h1, h2, _⟩
    · exact ⟨by omega, by unfold maxLen; omega⟩
    · exact ⟨h1, h2⟩
  obtain ⟨ys, rfl, hN, hl, hw⟩ := row_nums h
  unfold maxLen at hlc
  refine ⟨ys, rfl, ⟨hlc.1, hlc.2, fun i => ?_⟩, (St.start w).add _ (Nat.le_refl _) ⟨hN, fun h0 p hp => ?_⟩⟩
  · by_cases hi : i < ys.length
    · have := hw _ (List.getElem_mem hi)
      rw [nth, List.getElem?_eq_getElem hi]
      simp only [Lit.wf, Bool.and_eq_true, decide_eq_true_eq] at this
      exact this
    · simp [nth, show ys.length ≤ i by omega]
  · obtain ⟨b, o, e, hc⟩ := hN h0
    rw [hp] at e; cases e
    exact World.block_lt_of_cell? w _ (hc 0 h0)

end Go.Proofs.Ytpncpeokdcolpaa

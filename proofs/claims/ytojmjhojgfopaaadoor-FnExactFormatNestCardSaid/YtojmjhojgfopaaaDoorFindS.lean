/-
  l2Find, FindKey, VisitsFor of the model.
-/
import Derived.Test.YtojmjhojgfopaaaDoorWay
import Derived.Deep.RegionHeld3
namespace Go.Proofs.YtojmjhojgfopaaaDoor
open Go.RowKit

theorem way_last (T : Tab) (hv : validB T = true) (key : Int) : ∃ m, (wayOf T key).length = m + 1 ∧ nth (wayOf T key) m = (lastOf T key : Int) ∧ m < T.zs.length := by
  obtain ⟨⟨l1, _⟩, _⟩ := valid_facts hv
  obtain ⟨v1, v2⟩ := visN_bounds l1 key (homeN T key)
  refine ⟨visN T key (homeN T key) - 1, ?_, ?_, by omega⟩
  · rw [wayOf, wayTo_len]; omega
  · rw [wayOf, wayTo_nth (by omega)]; rfl

/-- What l2Asked asks. -/
theorem asked_yes {T : Tab} {key : Int} (h : (validB T && inB key 0 99) = true) : validB T = true ∧ 0 ≤ key ∧ key ≤ 99 := by
  rw [Bool.and_eq_true] at h
  have := inB_iff.1 h.2
  exact ⟨h.1, this⟩

end Go.Proofs.YtojmjhojgfopaaaDoor

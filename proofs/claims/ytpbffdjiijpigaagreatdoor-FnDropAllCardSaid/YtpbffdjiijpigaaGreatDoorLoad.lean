/-
  LoadOf: the program's and the model's.
-/
import Derived.Test.YtpbffdjiijpigaaGreatDoorCount
import Derived.Test.YtpbffdjiijpigaaGreatDoorMath
namespace Go.Proofs.YtpbffdjiijpigaaGreatDoor
open Go.RowKit

theorem load_no {T : Tab} (h : validB T = false) : loadOf T = -1 := by simp [loadOf, h]
/-- The arithmetic of a load. -/
theorem load_walk {T : Tab} (h : validB T = true) : ∃ a b : Nat, countK T = a ∧ countT T = b ∧ a + b ≤ T.zs.length ∧ 1 ≤ T.zs.length ∧ T.zs.length ≤ 16 ∧ loadOf T = (100 * ((a : Int) + b)).tdiv T.zs.length := by
  obtain ⟨⟨l1, l2⟩, _⟩ := valid_facts h
  have h3 := cnt_all T.zs
  refine ⟨cnt keyP T.zs T.zs.length, cnt tombP T.zs T.zs.length, by simp [countK, h], by simp [countT, h], by omega, l1, l2, ?_⟩
  rw [Int.tdiv_eq_ediv_of_nonneg (by omega)]
  simp [loadOf, h, countK, countT]

end Go.Proofs.YtpbffdjiijpigaaGreatDoor

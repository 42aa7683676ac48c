/-
  DropKey of the model.
-/
import Derived.Test.YtkdkdmjhhgllgaaGreatDoorShelf
import Derived.Test.YtkdkdmjhhgllgaaGreatDoorNew
import Derived.Test.YtkdkdmjhhgllgaaGreatDoorDrawn
import Derived.Test.YtkdkdmjhhgllgaaGreatDoorFinds2All
import Derived.Test.YtkdkdmjhhgllgaaGreatDoorMath
namespace Go.Proofs.YtkdkdmjhhgllgaaGreatDoor
open Go.RowKit

theorem dropRes_no {T : Tab} {key : Int} {w w' : World} (h : dropOk T key = false) (hb : Below w.heap.size w w') : TabRes (dropT T key) (dropOk T key) w (.returned (.tuple #[tbl 0 0 none 0 0, .bool false])) w' := by
  rw [h, dropT_no h]
  exact ⟨none, 0, rfl, OwnInts.nil _ _, hb⟩

end Go.Proofs.YtkdkdmjhhgllgaaGreatDoor

/-
  FairOf of the model.
-/
import Derived.Test.YtkdkdmjhhgllgaaGreatDoorModel6All
import Derived.Test.YtkdkdmjhhgllgaaGreatDoorKeysSpec
namespace Go.Proofs.YtkdkdmjhhgllgaaGreatDoor
open Go.RowKit

/-- A table's head over free slots. -/
def freeF (T : Tab) : Tab := ⟨T.t, T.p, List.replicate T.zs.length (-1)⟩
def fofOk (T : Tab) : Bool := validB T && decide ((keysOf T).length < T.zs.length) && fallOk (freeF T) (keysOf T)
def fofT (T : Tab) : Tab := if fofOk T then fallT (freeF T) (keysOf T) else ⟨0, 0, []⟩
theorem fofT_len (T : Tab) : (fofT T).zs.length ≤ 16 := by
  unfold fofT
  split
  · exact fallT_len _ _
  · simp
theorem fofRes_no {T : Tab} {w w' : World} (h : fofOk T = false) (hb : Below w.heap.size w w') : TabRes (fofT T) (fofOk T) w (.returned (.tuple #[tbl 0 0 none 0 0, .bool false])) w' := by
  have e : fofT T = ⟨0, 0, []⟩ := by simp [fofT, h]
  rw [h, e]
  exact ⟨none, 0, rfl, OwnInts.nil _ _, hb⟩

end Go.Proofs.YtkdkdmjhhgllgaaGreatDoor

/-
  DropAll: the program's and the model's.
-/
import Derived.Test.YtkdkdmjhhgllgaaGreatDoorAreKeys
import Derived.Test.YtkdkdmjhhgllgaaGreatDoorWithout
import Derived.Test.YtkdkdmjhhgllgaaGreatDoorFinds2All
import Derived.Test.YtkdkdmjhhgllgaaGreatDoorLostI
namespace Go.Proofs.YtkdkdmjhhgllgaaGreatDoor
open Go.RowKit

theorem keysB_parts {ks : List Int} (h : keysB ks = true) : ks.length ≤ 100 ∧ ∀ j, j < ks.length → 0 ≤ nth ks j ∧ nth ks j ≤ 99 := by
  simp only [keysB, Bool.and_eq_true, decide_eq_true_eq, List.all_eq_true] at h
  exact ⟨h.1, fun j hj => inB_iff.1 (h.2 _ (nth_mem hj))⟩
theorem dropsT_len (T : Tab) (ks : List Int) : (dropsT T ks).zs.length ≤ 16 := by
  unfold dropsT
  split
  · rename_i h
    simp only [dropsOk, Bool.and_eq_true] at h
    show (dropL ks T.zs).length ≤ 16
    rw [dropL_len]
    exact (valid_facts (sound_all.1 h.1).1).1.2
  · simp
theorem dropsRes_no {T : Tab} {ks : List Int} {w w' : World} (h : dropsOk T ks = false) (hb : Below w.heap.size w w') : TabRes (dropsT T ks) (dropsOk T ks) w (.returned (.tuple #[tbl 0 0 none 0 0, .bool false])) w' := by
  rw [h, dropsT_no h]
  exact ⟨none, 0, rfl, OwnInts.nil _ _, hb⟩
theorem take_snoc {ks : List Int} {k : Nat} (hk : k < ks.length) : ks.take (k + 1) = ks.take k ++ [nth ks k] := by
  rw [List.take_add_one, nth, List.getElem?_eq_getElem hk]
  rfl

end Go.Proofs.YtkdkdmjhhgllgaaGreatDoor

/-
  Whether numbers are keys, and not too many: the program's and the model's.
-/
import Derived.Test.YtjhdlbcgnhkbhaaGreatDoorBase
import Derived.Test.YtjhdlbcgnhkbhaaGreatDoorMath
namespace Go.Proofs.YtjhdlbcgnhkbhaaGreatDoor
open Go.RowKit
theorem all_step {ks : List Int} {k : Nat} (h : ∀ j, j < k → inB (nth ks j) 0 99 = true) (hx : inB (nth ks k) 0 99 = true) : ∀ j, j < k + 1 → inB (nth ks j) 0 99 = true := fun j hj => by
  by_cases e : j = k
  · subst e; exact hx
  · exact h j (by omega)
theorem all_yes {ks : List Int} (h : ∀ j, j < ks.length → inB (nth ks j) 0 99 = true) : (ks.all fun x => inB x 0 99) = true := by
  rw [List.all_eq_true]
  intro x hx
  obtain ⟨i, hi, e⟩ := mem_nth hx
  rw [← e]; exact h i hi
theorem all_no {ks : List Int} {k : Nat} (hk : k < ks.length) (hx : inB (nth ks k) 0 99 = false) : (ks.all fun x => inB x 0 99) = false := by
  rw [Bool.eq_false_iff]
  intro h
  rw [List.all_eq_true] at h
  have := h _ (nth_mem hk)
  rw [hx] at this
  cases this

end Go.Proofs.YtjhdlbcgnhkbhaaGreatDoor

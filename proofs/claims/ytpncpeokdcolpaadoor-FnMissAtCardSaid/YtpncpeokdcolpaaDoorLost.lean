/-
  LostKeys and IsSound of the model.
-/
import Derived.Test.YtpncpeokdcolpaaDoorFindS
import Derived.Maps.AppendAt
namespace Go.Proofs.YtpncpeokdcolpaaDoor
open Go.RowKit

/-- The lost keys among the first k of a list. -/
def lostTo (T : Tab) (ss : List Int) (k : Nat) : List Int := (ss.take k).filter fun x => decide (findI T x < 0)
theorem lostTo_yes {T : Tab} {ss : List Int} {k : Nat} {x : Int} (hk : k < ss.length) (hx : nth ss k = x) (h : findI T x < 0) : lostTo T ss (k + 1) = lostTo T ss k ++ [x] := by
  have e : ss[k] = x := by simpa [nth, List.getElem?_eq_getElem hk] using hx
  rw [lostTo, List.take_succ_eq_append_getElem hk, List.filter_append, e]
  simp [lostTo, h]
theorem lostTo_no {T : Tab} {ss : List Int} {k : Nat} {x : Int} (hk : k < ss.length) (hx : nth ss k = x) (h : ¬ findI T x < 0) : lostTo T ss (k + 1) = lostTo T ss k := by
  have e : ss[k] = x := by simpa [nth, List.getElem?_eq_getElem hk] using hx
  rw [lostTo, List.take_succ_eq_append_getElem hk, List.filter_append, e]
  simp [lostTo, h]
theorem lostTo_len (T : Tab) (ss : List Int) (k : Nat) : (lostTo T ss k).length ≤ k :=
  Nat.le_trans (List.length_filter_le _ _) (List.length_take_le _ _)
theorem lostTo_all {T : Tab} (hv : validB T = true) : lostTo T (sortU T.zs) (sortU T.zs).length = lostOf T := by
  simp [lostTo, lostOf, hv]

theorem nth_mem' {ss : List Int} {k : Nat} (hk : k < ss.length) : nth ss k ∈ ss := by
  rw [nth, List.getElem?_eq_getElem hk]
  exact List.getElem_mem hk

theorem zero_int (n : Nat) : ((n : Int) == 0) = decide (n = 0) := by
  by_cases h : n = 0 <;> simp [h]
theorem soundB_no {T : Tab} (h : validB T = false) : soundB T = false := by simp [soundB, h]
theorem soundB_yes {T : Tab} (h : validB T = true) : soundB T = decide ((lostOf T).length = 0) := by simp [soundB, h]

end Go.Proofs.YtpncpeokdcolpaaDoor

/-
  ShiftAll, of the program and of the model.
-/
import Derived.Test.YtkdkdmjhhgllgaaGreatDoorMath
import Derived.Test.YtkdkdmjhhgllgaaGreatDoorShiftsAll
import Derived.Test.YtkdkdmjhhgllgaaGreatDoorAreKeys
namespace Go.Proofs.YtkdkdmjhhgllgaaGreatDoor
open Go.RowKit

theorem shiftsT_len (T : Tab) (ks : List Int) : (shiftsT T ks).zs.length ≤ 16 := by
  unfold shiftsT
  split
  · rename_i h
    have h1 := (shiftsTo_left h ks.length (Nat.le_refl _)).len
    have hv : validB T = true := by
      simp only [shiftsOk, Bool.and_eq_true] at h
      exact (plain_parts h.1).2.1
    have h2 := (valid_facts hv).1.2
    show (shiftsTo T ks ks.length).length ≤ 16
    omega
  · simp
theorem shiftsRes_no {T : Tab} {ks : List Int} {w w' : World} (h : shiftsOk T ks = false) (hb : Below w.heap.size w w') : TabRes (shiftsT T ks) (shiftsOk T ks) w (.returned (.tuple #[tbl 0 0 none 0 0, .bool false])) w' := by
  have e : shiftsT T ks = ⟨0, 0, []⟩ := by simp [shiftsT, h]
  rw [h, e]
  exact ⟨none, 0, rfl, OwnInts.nil _ _, hb⟩
theorem tabV_tab {T : Tab} {zs : List Int} (hl : zs.length = T.zs.length) (a : Option Addr) (c : Nat) : tabV (tab T zs) a c = .agg #[.int .i64 T.t, .int .i64 T.p, .slice a T.zs.length c] := by
  show Value.agg #[_, _, .slice _ zs.length c] = _
  rw [hl]; rfl

end Go.Proofs.YtkdkdmjhhgllgaaGreatDoor

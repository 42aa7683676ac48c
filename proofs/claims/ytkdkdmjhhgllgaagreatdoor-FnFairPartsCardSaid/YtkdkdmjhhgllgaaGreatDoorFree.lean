/-
  NewTable of the program.
-/
import Derived.Test.YtkdkdmjhhgllgaaGreatDoorBase
import Derived.Test.YtkdkdmjhhgllgaaGreatDoorRepeat
namespace Go.Proofs.YtkdkdmjhhgllgaaGreatDoor
open Go.RowKit

set_option maxHeartbeats 400000 in
theorem NewTable_no (n t p : Int) (w : World) (h : headB n t p = false) :
    Calls Tryz.prog 31 #[.int .i64 n, .int .i64 t, .int .i64 p] w fun e w' => e = .returned (.tuple #[tbl 0 0 none 0 0, .bool false]) ∧ Below w.heap.size w w' := by
  unfold headB at h
  cases h1 : inB n 1 16
  all_goals cases h2 : inB t 0 15
  all_goals cases h3 : inB p 0 15
  all_goals try (exfalso; simp [h1, h2, h3] at h; done)
  all_goals clear h
  all_goals
    go_enter Tryz.func31, Tryz.ntmps31
    go_wp2_with (first | (go_at_call 61; refine (isSize_any _ _).mono ?_; rintro e w' ⟨rfl, rfl⟩) | (go_at_call 62; refine (isTimes_any _ _).mono ?_; rintro e w' ⟨rfl, rfl⟩))
    exact bodyPost_ret (v := .tuple #[tbl 0 0 none 0 0, .bool false]) (by simp [results, Tryz.results31, go_sem]) rfl ⟨rfl, (Below.refl _ _).alloc (Nat.le_refl _) _⟩

set_option maxHeartbeats 400000 in
theorem NewTable_yes (n : Nat) (t p : Int) (w : World) (h1 : inB n 1 16 = true) (h2 : inB t 0 15 = true) (h3 : inB p 0 15 = true) :
    Calls Tryz.prog 31 #[.int .i64 n, .int .i64 t, .int .i64 p] w fun e w' => ∃ g, e = .returned (.tuple #[tbl t p (some ⟨g, 0, none⟩) n n, .bool true]) ∧ OwnInts w' w.heap.size (some ⟨g, 0, none⟩) (List.replicate n (-1)) ∧ Below w.heap.size w w' := by
  obtain ⟨hn1, hn2⟩ := inB_iff.1 h1
  go_enter Tryz.func31, Tryz.ntmps31
  go_wp2_with (first | (go_at_call 61; refine (isSize_any _ _).mono ?_; rintro e w' ⟨rfl, rfl⟩) | (go_at_call 62; refine (isTimes_any _ _).mono ?_; rintro e w' ⟨rfl, rfl⟩))
  refine (Repeat_any (w.heap.size + 1) (-1) n _ (by omega) (by omega) (by rw [World.cell?_alloc_at _ _ _ _ (by simp)]; rfl)).mono ?_
  rintro e w' ⟨g, rfl, ho, hb⟩
  obtain ⟨q0, q1, q2, f0, f1, f2⟩ := cells3 (hb := hb) (b := w.heap.size) (by simp; omega) (res3 w _ _ _ _ _)
  have ho' := Lib.hid (ho.mono (base' := w.heap.size + 2) (by simp))
  clear ho
  go_wp2
  refine bodyPost_ret (v := .tuple #[tbl t p (some ⟨g, 0, none⟩) n n, .bool true]) (by simp [results, Tryz.results31, go_sem, q0, q1, q2]) rfl ⟨g, rfl, ?_, ?_⟩
  · exact (((ho'.out.setOther (p := ⟨w.heap.size, 0, none⟩) (by simp) _).setOther (p := ⟨w.heap.size, 1, none⟩) (by simp) _).setOther (p := ⟨w.heap.size, 2, none⟩) (by simp) _).mono (by simp)
  · exact set3 ((((Below.refl _ _).alloc (Nat.le_refl _) _).alloc (by simp) _).trans (hb.mono (by simp; omega))) (Nat.le_refl _) _ _ _

end Go.Proofs.YtkdkdmjhhgllgaaGreatDoor

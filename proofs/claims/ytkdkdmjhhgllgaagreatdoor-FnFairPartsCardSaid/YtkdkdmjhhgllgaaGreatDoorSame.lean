/-
  SameTable, of the program and of the model.
-/
import Derived.Test.YtkdkdmjhhgllgaaGreatDoorBase
import Derived.Test.YtkdkdmjhhgllgaaGreatDoorShelf
namespace Go.Proofs.YtkdkdmjhhgllgaaGreatDoor
open Go.RowKit

theorem slicesEqual_any (a1 a2 : Option Addr) (c1 c2 : Nat) (xs ys : List Int) (w : World) (hx : xs.length ≤ 9223372036854775807) (hy : ys.length ≤ 9223372036854775807) (h1 : IntsAt w a1 xs) (h2 : IntsAt w a2 ys) :
    Calls Tryz.prog 29 #[.slice a1 xs.length c1, .slice a2 ys.length c2] w fun e w' => e = .returned (.bool (decide (xs = ys))) ∧ ∃ n, w' = w.drewN n := by
  by_cases hl : xs.length = ys.length
  · by_cases h0 : xs.length = 0
    · obtain rfl : xs = [] := List.eq_nil_of_length_eq_zero h0
      obtain rfl : ys = [] := List.eq_nil_of_length_eq_zero (by omega)
      refine (Tryz.slices_Equal_int_empty a1 a2 c1 0 c2 w (by omega)).mono ?_
      rintro e w' ⟨rfl, rfl⟩
      exact ⟨rfl, 0, rfl⟩
    · obtain ⟨b1, o1, rfl, k1⟩ := h1 (by omega)
      obtain ⟨b2, o2, rfl, k2⟩ := h2 (by omega)
      refine (Tryz.slices_Equal_int b1 o1 xs.length c1 b2 o2 ys.length c2 xs ys w (Nat.le_refl _) (Nat.le_refl _) hx hy (fun j hj => by rw [k1 j hj]; simp) (fun j hj => by rw [k2 j hj]; simp)).mono ?_
      rintro e w' ⟨rfl, q, rfl⟩
      exact ⟨ret_bool (by rw [List.take_length, List.take_length, Bool.eq_iff_iff]; simp), q, rfl⟩
  · refine (Tryz.slices_Equal_int_lens a1 a2 xs.length c1 ys.length c2 w hl).mono ?_
    rintro e w' ⟨rfl, rfl⟩
    exact ⟨ret_bool (by symm; rw [decide_eq_false_iff_not]; intro h; exact hl (by rw [h])), 0, rfl⟩

/-- The same Times, Plus and slots. -/
def sameB (S T : Tab) : Bool := decide (S.t = T.t) && (decide (S.p = T.p) && decide (S.zs = T.zs))

set_option maxHeartbeats 400000 in
theorem SameTable_any (S T : Tab) (a1 a2 : Option Addr) (c1 c2 : Nat) (w : World) (hx : S.zs.length ≤ 9223372036854775807) (hy : T.zs.length ≤ 9223372036854775807) (h1 : IntsAt w a1 S.zs) (h2 : IntsAt w a2 T.zs) :
    Calls Tryz.prog 8 #[tabV S a1 c1, tabV T a2 c2] w fun e w' => e = .returned (.bool (sameB S T)) ∧ Below w.heap.size w w' := by
  cases e1 : (S.t == T.t)
  · go_enter Tryz.func8, Tryz.ntmps8
    go_wp2
    go_ret
    exact ⟨ret_bool (by have : ¬ S.t = T.t := by simpa using e1
                        simp [sameB, this]), (((Below.refl _ _).alloc (Nat.le_refl _) _).alloc (by simp) _)⟩
  · cases e2 : (S.p == T.p)
    · go_enter Tryz.func8, Tryz.ntmps8
      go_wp2
      go_ret
      exact ⟨ret_bool (by have : ¬ S.p = T.p := by simpa using e2
                          simp [sameB, this]), (((Below.refl _ _).alloc (Nat.le_refl _) _).alloc (by simp) _)⟩
    · go_enter Tryz.func8, Tryz.ntmps8
      go_wp2_with fail
      refine (slicesEqual_any a1 a2 c1 c2 S.zs T.zs _ hx hy (by exact h1.below (((Below.refl _ _).alloc (Nat.le_refl _) _).alloc (by simp) _)) (by exact h2.below (((Below.refl _ _).alloc (Nat.le_refl _) _).alloc (by simp) _))).mono ?_
      rintro e w' ⟨rfl, nq, rfl⟩
      go_wp2
      go_ret
      exact ⟨ret_bool (by have h3 : S.t = T.t := by simpa using e1
                          have h4 : S.p = T.p := by simpa using e2
                          simp [sameB, h3, h4]), below_drewN (((Below.refl _ _).alloc (Nat.le_refl _) _).alloc (by simp) _) _⟩

end Go.Proofs.YtkdkdmjhhgllgaaGreatDoor

/-
  Keys become tombs: the program's without, and what it calls.
-/
import Derived.Test.YtkdkdmjhhgllgaaGreatDoorShelf
import Derived.Test.YtkdkdmjhhgllgaaGreatDoorShelf2
import Derived.Test.YtkdkdmjhhgllgaaGreatDoorNew
import Derived.Test.YtkdkdmjhhgllgaaGreatDoorDrawn
import Derived.Test.YtkdkdmjhhgllgaaGreatDoorMath
namespace Go.Proofs.YtkdkdmjhhgllgaaGreatDoor
open Go.RowKit

theorem contains_any (ks : List Int) (a : Option Addr) (c : Nat) (x : Int) (w : World) (hl : ks.length ≤ 9223372036854775807) (h1 : IntsAt w a ks) :
    Calls Tryz.prog 36 #[.slice a ks.length c, .int .i64 x] w fun e w' => e = .returned (.bool (decide (x ∈ ks))) ∧ w' = w := by
  rcases Nat.eq_zero_or_pos ks.length with h0 | h0
  · obtain rfl := List.length_eq_zero_iff.1 h0
    refine (Tryz.slices_Contains_int_empty a c x w).mono ?_
    rintro e w' ⟨rfl, rfl⟩
    exact ⟨rfl, rfl⟩
  · obtain ⟨b, o, rfl, hc⟩ := h1 h0
    refine (Tryz.slices_Contains_int b o ks.length c ks x w (Nat.le_refl _) hl (fun j hj => by exact hc j hj)).mono ?_
    rintro e w' ⟨rfl, rfl⟩
    refine ⟨?_, rfl⟩
    rw [List.take_length]
    congr 2
    rw [Bool.eq_iff_iff]
    simp

end Go.Proofs.YtkdkdmjhhgllgaaGreatDoor

/-
  What the exact laws of functions that answer lists of integers share.
-/
import Derived.Test.YtflfmoiopaohiaaGreatDoorLow
import Derived.Test.YtflfmoiopaohiaaGreatDoorKeys
namespace Go.Proofs.YtflfmoiopaohiaaGreatDoor
open Go.RowKit

theorem keysOf_len (T : Tab) : (keysOf T).length ≤ 1000 := by
  unfold keysOf
  split
  · have := sortTo_len T.zs 100
    unfold sortU
    omega
  · simp

/-- The same list twice. -/
theorem eqIntS_same (xs : List Int) (a1 a2 : Option Addr) (c1 c2 : Nat) (w : World) (hx : xs.length ≤ 1073741824) (h1 : IntsAt w a1 xs) (h2 : IntsAt w a2 xs) :
    Calls Tryz.prog 58 #[.slice a1 xs.length c1, .slice a2 xs.length c2] w fun e w' => e = .returned (.bool true) ∧ Below w.heap.size w w' := by
  refine (eqIntS_any a1 a2 c1 c2 xs xs w (by omega) (by omega) h1 h2).mono ?_
  rintro e w' ⟨rfl, n, rfl⟩
  exact ⟨by simp, below_drewN (Below.refl _ _) _⟩

theorem heldIntS_marks (a : Option Addr) (n c : Nat) (w : World) (hx : n ≤ 1073741824) (h1 : IntsAt w a ((List.range n).map (fun i : Nat => (1 : Int) + i))) :
    Calls Tryz.prog 60 #[.slice a n c, .int .i64 1] w fun e w' => e = .returned (.int .i64 (1 + n)) ∧ Below w.heap.size w w' := by
  have hl : ((List.range n).map (fun i : Nat => (1 : Int) + i)).length = n := by simp
  have h := heldIntS_any a c _ 1 w (by rw [hl]; exact hx) (by omega) (by omega) h1 (by
    intro j hj
    rw [hl] at hj
    simp [hj])
  rw [hl] at h
  refine h.mono ?_
  rintro e w' ⟨rfl, k, rfl⟩
  exact ⟨rfl, below_drewN (Below.refl _ _) _⟩

end Go.Proofs.YtflfmoiopaohiaaGreatDoor

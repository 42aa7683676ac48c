/-
  DropShift and MovesBy of the model.
-/
import Derived.Test.YtblkafmamnimjaaGreatDoorShelf
import Derived.Test.YtblkafmamnimjaaGreatDoorShiftI
import Derived.Test.YtblkafmamnimjaaGreatDoorAway
import Derived.Test.YtblkafmamnimjaaGreatDoorLost
namespace Go.Proofs.YtblkafmamnimjaaGreatDoor
open Go.RowKit

theorem dst_int {n h s : Nat} (hh : h < n) (hs : s < n) : ((s : Int) - h) % (n : Int) = (dst n h s : Nat) := by
  rcases dst_cases n h s with ⟨c, e⟩ | ⟨c, e⟩
  · rw [Int.emod_eq_of_lt (by omega) (by omega)]; omega
  · rw [← Int.add_emod_right, Int.emod_eq_of_lt (by omega) (by omega)]; omega
theorem next_int {n k : Nat} (hk : k < n) : ((k : Int) + 1).tmod (n : Int) = (fwd n k 1 : Nat) := by
  rw [Int.tmod_eq_emod_of_nonneg (by omega)]
  rcases fwd_cases n k 1 with ⟨c, e⟩ | ⟨c, e⟩
  · rw [Int.emod_eq_of_lt (by omega) (by omega)]; omega
  · rw [show ((k : Int) + 1) = n by omega, Int.emod_self]; omega
theorem next_int' {n k : Nat} (hk : k < n) : ((k : Int) + 1) % (n : Int) = (fwd n k 1 : Nat) := by
  rw [← next_int hk, Int.tmod_eq_emod_of_nonneg (by omega)]
/-- How far a slot lies behind the hole; the hole itself lies all around behind it. -/
def behN (n h k : Nat) : Nat := if k = h then n else dst n h k
theorem behN_fwd {n h d : Nat} (hh : h < n) (h1 : 1 ≤ d) (h2 : d ≤ n) : behN n h (fwd n h d) = d := by
  unfold behN
  split
  · rename_i e
    rcases fwd_cases n h d with ⟨c, e2⟩ | ⟨c, e2⟩ <;> omega
  · rename_i e
    by_cases hd : d = n
    · subst hd
      rcases fwd_cases d h d with ⟨c, e2⟩ | ⟨c, e2⟩ <;> omega
    · exact dst_fwd hh (by omega)
theorem next_fwd {n h d : Nat} (hh : h < n) (hd : d < n) : fwd n (fwd n h d) 1 = fwd n h (d + 1) := by
  rcases fwd_cases n h d with ⟨c1, e1⟩ | ⟨c1, e1⟩ <;> rcases fwd_cases n h (d + 1) with ⟨c2, e2⟩ | ⟨c2, e2⟩ <;> rcases fwd_cases n (fwd n h d) 1 with ⟨c3, e3⟩ | ⟨c3, e3⟩ <;> omega

/-- What l5Drop answers: the slots behind the machine, and the keys that are shifted. -/
def DropRes (T : Tab) (k : Nat) (w : World) (e : Ending) (w' : World) : Prop :=
  ∃ a1 c1 a2 c2, e = .returned (.tuple #[.agg #[.int .i64 T.t, .int .i64 T.p, .slice a1 T.zs.length c1], .slice a2 (shiftZ T T.zs k).1.length c2]) ∧ OwnInts w' w.heap.size a1 (shiftZ T T.zs k).2 ∧ OwnInts w' w.heap.size a2 (shiftZ T T.zs k).1 ∧ Below w.heap.size w w'

end Go.Proofs.YtblkafmamnimjaaGreatDoor

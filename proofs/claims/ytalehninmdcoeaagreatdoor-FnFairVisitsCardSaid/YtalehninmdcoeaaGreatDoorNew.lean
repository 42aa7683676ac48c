/-
  spec.NewTable, and the exact law of NewTable.
-/
import Derived.Test.YtalehninmdcoeaaGreatDoorLow
import Derived.Test.YtalehninmdcoeaaGreatDoorFree
namespace Go.Proofs.YtalehninmdcoeaaGreatDoor
open Go.RowKit
/-- A value that is a table of the call's own: its slots lie in blocks from base on. -/
def TabRes (T : Tab) (ok : Bool) (w : World) (e : Ending) (w' : World) : Prop :=
  ∃ a c, e = .returned (.tuple #[.agg #[.int .i64 T.t, .int .i64 T.p, .slice a T.zs.length c], .bool ok]) ∧ OwnInts w' w.heap.size a T.zs ∧ Below w.heap.size w w'

def newTab (n t p : Int) : Tab := if headB n t p then ⟨t, p, List.replicate n.toNat (-1)⟩ else ⟨0, 0, []⟩
theorem newTab_len (n t p : Int) : (newTab n t p).zs.length ≤ 16 := by
  unfold newTab
  split
  · rename_i h
    simp [headB, inB_iff] at h
    simp; omega
  · simp

end Go.Proofs.YtalehninmdcoeaaGreatDoor

/-
  Sets of slots: a slot more.
-/
import Derived.Test.YtipabndhknhkeaaGreatDoorBase
import Derived.Test.YtipabndhknhkeaaGreatDoorMath
namespace Go.Proofs.YtipabndhknhkeaaGreatDoor
open Go.RowKit

set_option maxHeartbeats 400000 in
theorem with_any (m k : Nat) (hm : m < 65536) (hk : k < 16) (w : World) :
    Calls Tryz.prog 91 #[.int .u16 m, .int .i64 k] w fun e w' => e = .returned (.int .u16 ((m ||| 2 ^ k : Nat) : Int)) ∧ w = w' := by
  have H := Lib.hid (bit_with hm hk)
  go_enter Tryz.func91, Tryz.ntmps91
  go_wp2
  go_ret
  exact ⟨by rw [← H.out]; rfl, rfl⟩

end Go.Proofs.YtipabndhknhkeaaGreatDoor

/-
  The program's canLook, VisitsFor and PlaceFor.
-/
import Derived.WideLaws
import Derived.BigQuiet
import Derived.Test.YtblkafmamnimjaaGreatDoorFindS
import Derived.Test.YtblkafmamnimjaaGreatDoorPlace
import Derived.Test.YtblkafmamnimjaaGreatDoorLook
namespace Go.Proofs.YtblkafmamnimjaaGreatDoor
open Go.RowKit

set_option maxHeartbeats 400000 in
theorem canLook_any (T : Tab) (a : Option Addr) (c : Nat) (key : Int) (w : World) (hx : T.zs.length ≤ 9223372036854775807) (h1 : IntsAt w a T.zs) :
    Calls Tryz.prog 68 #[tabV T a c, .int .i64 key] w fun e w' => e = .returned (.bool (validB T && inB key 0 99)) ∧ Below w.heap.size w w' := by
  have S0 := ((St.start w).read h1).alloc #[.int .i64 T.t, .int .i64 T.p, .slice a T.zs.length c] 25
  cases hv : validB T
  · go_enter Tryz.func68, Tryz.ntmps68
    go_wp2_with fail
    refine (TableValid_any T a c _ hx (by exact S0.reads 1 rfl)).mono ?_
    rw [hv]
    rintro e w1 ⟨rfl, hb⟩
    have S1 := S0.below hb
    go_wp2
    go_ret
    exact ⟨rfl, S1.old⟩
  · go_enter Tryz.func68, Tryz.ntmps68
    go_wp2_with fail
    refine (TableValid_any T a c _ hx (by exact S0.reads 1 rfl)).mono ?_
    rw [hv]
    rintro e w1 ⟨rfl, hb⟩
    have S1 := S0.below hb
    go_wp2_with (first | (go_at_call 86; refine (isKey_any _ _).mono ?_; rintro e w' ⟨rfl, rfl⟩))
    go_ret
    exact ⟨rfl, S1.old⟩

end Go.Proofs.YtblkafmamnimjaaGreatDoor

/-
  The program's canLook, VisitsFor and PlaceFor.
-/
import Derived.WideLaws
import Derived.BigQuiet
import Derived.Test.YtalehninmdcoeaaGreatDoorFindS
import Derived.Test.YtalehninmdcoeaaGreatDoorPlace
import Derived.Test.YtalehninmdcoeaaGreatDoorLook
namespace Go.Proofs.YtalehninmdcoeaaGreatDoor
open Go.RowKit

set_option maxHeartbeats 400000 in
theorem canLook_any (T : Tab) (a : Option Addr) (c : Nat) (key : Int) (w : World) (hx : T.zs.length ≤ 9223372036854775807) (h1 : IntsAt w a T.zs) :
    Calls Tryz.prog 65 #[tabV T a c, .int .i64 key] w fun e w' => e = .returned (.bool (validB T && inB key 0 99)) ∧ Below w.heap.size w w' := by
  have S0 := ((St.start w).read h1).alloc #[.int .i64 T.t, .int .i64 T.p, .slice a T.zs.length c] 25
  cases hv : validB T
  · go_enter Tryz.func65, Tryz.ntmps65
    go_wp2_with fail
    refine (TableValid_any T a c _ hx (by exact S0.reads 1 rfl)).mono ?_
    rw [hv]
    rintro e w1 ⟨rfl, hb⟩
    have S1 := S0.below hb
    go_wp2
    go_ret
    exact ⟨rfl, S1.old⟩
  · go_enter Tryz.func65, Tryz.ntmps65
    go_wp2_with fail
    refine (TableValid_any T a c _ hx (by exact S0.reads 1 rfl)).mono ?_
    rw [hv]
    rintro e w1 ⟨rfl, hb⟩
    have S1 := S0.below hb
    go_wp2_with (first | (go_at_call 56; refine (isKey_any _ _).mono ?_; rintro e w' ⟨rfl, rfl⟩))
    go_ret
    exact ⟨rfl, S1.old⟩

set_option maxHeartbeats 1000000 in
theorem VisitsFor_any (T : Tab) (a : Option Addr) (c : Nat) (key : Int) (w : World) (hx : T.zs.length ≤ 9223372036854775807) (h1 : IntsAt w a T.zs) :
    Calls Tryz.prog 16 #[tabV T a c, .int .i64 key] w fun e w' => e = .returned (.int .i64 (visOf T key)) ∧ Below w.heap.size w w' := by
  have S0 := ((St.start w).read h1).alloc #[.int .i64 T.t, .int .i64 T.p, .slice a T.zs.length c] 25
  cases hv : (validB T && inB key 0 99)
  · go_enter Tryz.func16, Tryz.ntmps16
    go_wp2_with fail
    refine (canLook_any T a c key _ hx (by exact S0.reads 1 rfl)).mono ?_
    rw [hv]
    rintro e w1 ⟨rfl, hb⟩
    have S1 := S0.below hb
    go_wp2
    go_ret
    exact ⟨by simp [visOf, hv], S1.old⟩
  · obtain ⟨v1, k0, k9⟩ := asked_yes hv
    go_enter Tryz.func16, Tryz.ntmps16
    go_wp2_with fail
    refine (canLook_any T a c key _ hx (by exact S0.reads 1 rfl)).mono ?_
    rw [hv]
    rintro e w1 ⟨rfl, hb⟩
    have S1 := S0.below hb
    clear S0 hb
    obtain ⟨x0, x1, x2, x3, x4, x5, xz⟩ := facts3 (S1.cells 0 rfl)
    go_wp2_with fail
    refine (look_any T a c key _ v1 k0 k9 (by exact S1.reads 1 rfl)).mono ?_
    rintro e w2 ⟨pl, ev, rfl, _, hb⟩
    have S2 := S1.below hb
    clear x0 x1 x2 x3 x4 x5 xz
    go_wp2
    go_ret
    exact ⟨by simp [visOf, hv], S2.old.trans ((Below.refl _ _).alloc S2.old.size _)⟩

end Go.Proofs.YtalehninmdcoeaaGreatDoor

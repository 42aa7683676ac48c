/-
  KeysIn of the model.
-/
import Derived.Test.YtpncpeokdcolpaaGreatDoorKeys
namespace Go.Proofs.YtpncpeokdcolpaaGreatDoor
open Go.RowKit

set_option maxHeartbeats 1000000 in
theorem specKeysIn_any (T : Tab) (a : Option Addr) (c : Nat) (w : World) (hx : T.zs.length ≤ 9223372036854775807) (h1 : IntsAt w a T.zs) :
    Calls Tryz.prog 78 #[tabV T a c] w (IntsRes (keysOf T) (validB T) w) := by
  have S0 := ((St.start w).read h1).alloc #[.int .i64 T.t, .int .i64 T.p, .slice a T.zs.length c] 27
  cases hv : validB T
  · go_enter Tryz.func78, Tryz.ntmps78
    go_wp2_with fail
    refine (specTableValid_any T a c _ hx (by exact S0.reads 1 rfl)).mono ?_
    rw [hv]
    rintro e w1 ⟨rfl, hb⟩
    have S1 := S0.below hb
    have z1 := S1.size
    go_wp2
    go_ret2
    exact ⟨some ⟨w1.heap.size, 0, none⟩, 0, by simp [keysOf, hv], by simp only [keysOf, hv]; exact ⟨fun p hp => by cases hp; exact ⟨z1, by simp⟩, fun h => by simp at h⟩, S1.old.alloc z1 _⟩
  · have HV := Lib.hid hv
    clear hv
    go_enter Tryz.func78, Tryz.ntmps78
    go_wp2_with fail
    refine (specTableValid_any T a c _ hx (by exact S0.reads 1 rfl)).mono ?_
    rw [HV.out]
    rintro e w1 ⟨rfl, hb⟩
    have S1 := S0.below hb
    have z1 := S1.size
    clear S0 hb
    obtain ⟨x0, x1, x2, x3, x4, x5, xz⟩ := facts3 (S1.cells 0 rfl)
    go_wp2_with fail
    refine (l1Sort_any a c T.zs _ hx (by exact S1.reads 1 rfl)).mono ?_
    rintro e w2 ⟨a2, c2, rfl, ho, hb⟩
    go_wp2
    go_ret2
    have hko : keysOf T = sortU T.zs := by simp [keysOf, HV.out]
    exact ⟨a2, c2, by rw [hko]; rfl, by rw [hko]; exact ho.mono z1, S1.old.trans (hb.mono z1)⟩

end Go.Proofs.YtpncpeokdcolpaaGreatDoor

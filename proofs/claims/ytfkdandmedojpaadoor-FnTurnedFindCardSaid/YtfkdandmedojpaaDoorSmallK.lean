/-
  l1Key.
-/
import Derived.Test.YtfkdandmedojpaaDoorSmall
namespace Go.Proofs.YtfkdandmedojpaaDoor
open Go.RowKit

set_option maxHeartbeats 400000 in
theorem l1Key_any (n : Int) (w : World) :
    Calls Tryd.prog 49 #[.int .i64 n] w fun e w' => e = .returned (.bool (inB n 0 99)) ∧ w = w' := by
  go_enter Tryd.func49, Tryd.ntmps49
  go_wp2_with (go_at_call 39; refine (l1In_any _ _ _ _).mono ?_; rintro e w' ⟨rfl, rfl⟩)
  go_ret
  exact ⟨rfl, rfl⟩

end Go.Proofs.YtfkdandmedojpaaDoor

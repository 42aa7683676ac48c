/-
  l1Key.
-/
import Derived.Test.YtfkdandmedojpaaSmall
namespace Go.Proofs.Ytfkdandmedojpaa
open Go.RowKit

set_option maxHeartbeats 400000 in
theorem l1Key_any (n : Int) (w : World) :
    Calls Try.prog 94 #[.int .i64 n] w fun e w' => e = .returned (.bool (inB n 0 99)) ∧ w = w' := by
  go_enter Try.func94, Try.ntmps94
  go_wp2_with (go_at_call 72; refine (l1In_any _ _ _ _).mono ?_; rintro e w' ⟨rfl, rfl⟩)
  go_ret
  exact ⟨rfl, rfl⟩

end Go.Proofs.Ytfkdandmedojpaa

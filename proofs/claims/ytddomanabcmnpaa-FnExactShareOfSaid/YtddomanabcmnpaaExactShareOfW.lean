/-
  The exact law of ShareOf: the walk.
-/
import Derived.Test.YtddomanabcmnpaaShare
import Derived.Test.YtddomanabcmnpaaFrame
namespace Go.Proofs.Ytddomanabcmnpaa
open Go.RowKit

set_option maxHeartbeats 2000000 in
theorem walkFnExactShareOf (w : World) (a : Int) (ha : (Lit.int .i64 a).wf = true) (b : Int) (hb : (Lit.int .i64 b).wf = true) :
    Calls Try.prog 15 #[.int .i64 a, .int .i64 b] w fun e w' => e = .returned (.bool true) ∧ Below w.heap.size w w' := by
  obtain ⟨_, ba⟩ := wf_i64 ha
  obtain ⟨_, bb⟩ := wf_i64 hb
  have A1 := Lib.hid fun w => shareS_below a b w ba bb
  have A2 := Lib.hid fun w => shareI_below a b w ba bb
  clear ha hb
  go_enter Try.func15, Try.ntmps15
  go_wp2_with fail
  refine (A1.out _).mono ?_
  rintro e w1 ⟨rfl, hb1⟩
  go_wp2_with fail
  refine (A2.out _).mono ?_
  rintro e w2 ⟨rfl, hb2⟩
  generalize shareI a b = X
  go_wp2
  go_ret
  exact ⟨rfl, hb1.trans (hb2.mono hb1.size)⟩

end Go.Proofs.Ytddomanabcmnpaa

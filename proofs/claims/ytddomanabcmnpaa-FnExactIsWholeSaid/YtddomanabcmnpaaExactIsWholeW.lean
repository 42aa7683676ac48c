/-
  The exact law of IsWhole: the walk.
-/
import Derived.Test.YtddomanabcmnpaaWayS
import Derived.Test.YtddomanabcmnpaaReachI
namespace Go.Proofs.Ytddomanabcmnpaa
open Go.RowKit

set_option maxHeartbeats 2000000 in
theorem walkFnExactIsWhole (w : World) (n : Int) (hn : (Lit.int .i64 n).wf = true) (k : Int) (hk : (Lit.int .i64 k).wf = true) (s : Int) (hs : (Lit.int .i64 s).wf = true) :
    Calls Try.prog 13 #[.int .i64 n, .int .i64 k, .int .i64 s] w fun e w' => e = .returned (.bool true) ∧ Below w.heap.size w w' := by
  have A1 := Lib.hid fun w => specIsWhole_any n k s w
  have A2 := Lib.hid fun w => IsWhole_any n k s w
  clear hn hk hs
  go_enter Try.func13, Try.ntmps13
  go_wp2_with fail
  refine (A1.out _).mono ?_
  rintro e w1 ⟨rfl, hb1⟩
  go_wp2_with fail
  refine (A2.out _).mono ?_
  rintro e w2 ⟨rfl, hb2⟩
  generalize wholeB n k s = X
  go_wp2
  go_ret
  exact ⟨rfl, hb1.trans (hb2.mono hb1.size)⟩

end Go.Proofs.Ytddomanabcmnpaa

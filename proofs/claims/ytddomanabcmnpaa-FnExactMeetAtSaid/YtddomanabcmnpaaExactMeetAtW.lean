/-
  The exact law of MeetAt: the walk.
-/
import Derived.Test.YtddomanabcmnpaaWayS
import Derived.Test.YtddomanabcmnpaaMeetI
namespace Go.Proofs.Ytddomanabcmnpaa
open Go.RowKit

set_option maxHeartbeats 2000000 in
theorem walkFnExactMeetAt (w : World) (n : Int) (hn : (Lit.int .i64 n).wf = true) (f : Int) (hf : (Lit.int .i64 f).wf = true) (o : Int) (ho : (Lit.int .i64 o).wf = true) (s : Int) (hs : (Lit.int .i64 s).wf = true) (t : Int) (ht : (Lit.int .i64 t).wf = true) :
    Calls Try.prog 16 #[.int .i64 n, .int .i64 f, .int .i64 o, .int .i64 s, .int .i64 t] w fun e w' => e = .returned (.bool true) ∧ Below w.heap.size w w' := by
  have A1 := Lib.hid fun w => specMeetAt_any n f o s t w
  have A2 := Lib.hid fun w => MeetAt_any n f o s t w
  clear hn hf ho hs ht
  go_enter Try.func16, Try.ntmps16
  go_wp2_with fail
  refine (A1.out _).mono ?_
  rintro e w1 ⟨rfl, hb1⟩
  go_wp2_with fail
  refine (A2.out _).mono ?_
  rintro e w2 ⟨rfl, hb2⟩
  generalize meetI n f o s t = X
  go_wp2
  go_ret
  exact ⟨rfl, hb1.trans (hb2.mono hb1.size)⟩

end Go.Proofs.Ytddomanabcmnpaa

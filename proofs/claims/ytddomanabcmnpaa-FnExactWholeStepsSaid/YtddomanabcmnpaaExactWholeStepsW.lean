/-
  The exact law of WholeSteps: the walk.
-/
import Derived.Test.YtddomanabcmnpaaIntsK
import Derived.Test.YtddomanabcmnpaaWayS
import Derived.Test.YtddomanabcmnpaaReachI
namespace Go.Proofs.Ytddomanabcmnpaa
open Go.RowKit

set_option maxHeartbeats 4000000 in
theorem walkFnExactWholeSteps (w : World) (n : Int) (hn : (Lit.int .i64 n).wf = true) :
    Calls Try.prog 14 #[.int .i64 n] w fun e w' => e = .returned (.bool true) ∧ Below w.heap.size w w' := by
  have HS := Lib.hid fun w => specWholeSteps_any n w
  have HI := Lib.hid fun w => WholeSteps_any n w
  have hxl : (stepsI n).length ≤ 16 := stepsI_len n
  generalize stepsI n = xs at HS HI hxl
  generalize inB n 1 16 = ok at HS HI
  clear hn
  go_enter Try.func14, Try.ntmps14
  go_wp2_with fail
  refine (HS.out w).mono ?_
  rintro e w1 ⟨a1, c1, rfl, ho, hb⟩
  have S1 := ((St.start w).below hb).own ho
  have z1 := hb.size
  clear hb ho
  go_wp2_with fail
  refine (HI.out w1).mono ?_
  rintro e w2 ⟨a2, c2, rfl, ho, hb⟩
  have S2 := (S1.below hb).own ho
  have z2 := hb.size
  clear S1 hb ho
  go_wp2_with fail
  refine (eqIntS_same xs a2 a1 c2 c1 _ (by omega) (by exact S2.ints 0 rfl) (by exact S2.ints 1 rfl)).mono ?_
  rintro e w3 ⟨rfl, hb⟩
  have S3 := S2.below hb
  have z3 := hb.size
  clear S2 hb
  go_wp2_with fail
  refine (markIntS_any _ a2 c2 xs 1 _ (by omega) (by omega) (by omega) (by exact S3.owns 0 rfl)).mono ?_
  rintro e w4 ⟨rfl, ho4, hg4⟩
  have S4 := S3.markAt hg4 ho4 0 rfl (by simp [Far, It.own]; try omega) (by omega)
  have z4 := hg4.size
  clear S3 ho4 hg4
  have t3 : decide ((1 : Int) + (xs.length : Int) < 0) = false := by simp; omega
  go_wp2_with fail
  refine (heldIntS_marks a2 xs.length c2 _ (by omega) (by exact S4.ints 0 rfl)).mono ?_
  rintro e w5 ⟨rfl, hb⟩
  have S5 := S4.below hb
  have z5 := hb.size
  clear S4 hb
  go_wp2_with fail
  refine (HI.out w5).mono ?_
  rintro e w6 ⟨a6, c6, rfl, ho, hb⟩
  have S6 := (S5.below hb).own ho
  have z6 := hb.size
  clear S5 hb ho
  go_wp2_with fail
  refine (eqIntS_same xs a6 a1 c6 c1 _ (by omega) (by exact S6.ints 0 rfl) (by exact S6.ints 2 rfl)).mono ?_
  rintro e w7 ⟨rfl, hb⟩
  have S7 := S6.below hb
  clear S6 hb
  go_wp2_with fail
  refine (heldIntS_marks a2 xs.length c2 _ (by omega) (by exact S7.ints 1 rfl)).mono ?_
  rintro e w8 ⟨rfl, hb⟩
  have S8 := S7.below hb
  clear S7 hb
  go_wp2
  go_ret
  exact ⟨rfl, S8.old⟩

end Go.Proofs.Ytddomanabcmnpaa

/-
  The law FnSpread: the walk.
-/
import Derived.Test.YtpncpeokdcolpaaCame
import Derived.Test.YtpncpeokdcolpaaDraw12
import Derived.Test.YtpncpeokdcolpaaCount
import Derived.Test.YtpncpeokdcolpaaCosts
import Derived.Test.YtpncpeokdcolpaaMath
namespace Go.Proofs.Ytpncpeokdcolpaa
open Go.RowKit

set_option maxRecDepth 100000 in
set_option maxHeartbeats 4000000 in
theorem walkFnSpread (w : World) (a : Option Addr) (len cap : Nat) (zs : List Int) (h : IsRow .u8 w a len cap zs) :
    Calls Try.prog 9 #[.slice a len cap] w fun e w' => e = .returned (.bool true) ∧ Below w.heap.size w w' := by
  obtain ⟨ys, rfl, hC, S0⟩ := came_of h
  clear h
  by_cases hs : ys.length ≤ 1048576
  · have t1 : decide (1048576 < (ys.length : Int)) = false := by simp; omega
    go_enter Try.func9, Try.ntmps9
    go_wp2_with fail
    refine (DrawMissVisits_any (by exact S0) hC).mono ?_
    rintro e w1 ⟨T, a1, c1, lo, hi, rfl, hT, hlo, S1⟩
    obtain ⟨n1, n2⟩ := hT.len
    have S2 := S1.alloc #[.int .i64 T.t, .int .i64 T.p, .slice a1 T.zs.length c1] 27
    go_wp2_with fail
    refine (MissVisits_any T a1 c1 _ (by omega) (by exact S2.ints 1 rfl)).mono ?_
    rintro e w2 ⟨rfl, hb⟩
    have S3 := S1.alloc1 hb
    clear S1 S2 hb
    obtain ⟨x0, x1, x2, x3, x4, x5, xz⟩ := facts3 (S3.cells 0 rfl)
    go_wp2_with fail
    clear x0 x1 x2 x3 x4 x5 xz
    refine (specMissVisits_any T a1 c1 _ (by omega) (by exact S3.ints 1 rfl)).mono ?_
    rintro e w3 ⟨rfl, hb⟩
    have S4 := S3.below hb
    clear S3 hb
    obtain ⟨x0, x1, x2, x3, x4, x5, xz⟩ := facts3 (S4.cells 0 rfl)
    cases hv : validB T
    · have E : missAll T = -1 := by simp [missAll, hv]
      rw [E]
      go_wp2_with fail
      go_ret
      exact ⟨rfl, S4.old⟩
    · obtain ⟨m, k, e1, e2, k16, m256, n16, hcase⟩ := spread_says hv
      rw [e1]
      clear e1
      have HC := Lib.hid fun (W : World) h => CountSlots_any T a1 c1 W (by omega) h
      have b0 : 0 ≤ countK T ∧ 0 ≤ countT T ∧ 0 ≤ countF T := by simp [countK, countT, countF, hv]
      generalize countK T = ck at e2 HC b0
      generalize countT T = ct at e2 HC b0
      generalize countF T = cf at HC b0 hcase
      obtain ⟨t1, t2, t3⟩ := tri_le k16
      have m0 : decide ((m : Int) < 0) = false := decide_eq_false (by omega)
      have e3 : IntKind.i64.wrap (ck + ct) = (k : Int) := by rw [e2]; exact IntWalk.i64_in _ ⟨by omega, by omega⟩
      go_wp2_with fail
      refine (HC.out _ (by exact S4.ints 1 rfl)).mono ?_
      rintro e w5 ⟨rfl, hb⟩
      have S5 := S4.below hb
      clear S4 hb x0 x1 x2 x3 x4 x5 xz
      obtain ⟨x0, x1, x2, x3, x4, x5, xz⟩ := facts3 (S5.cells 0 rfl)
      rcases hcase with ⟨c0, c1⟩ | ⟨c0, c1, c2⟩
      · subst c0
        have e4 : IntKind.i64.wrap ((k : Int) * (k : Int)) = (m : Int) := by
          have : (k : Int) * (k : Int) = ((k * k : Nat) : Int) := by simp
          rw [this, ← c1]; exact IntWalk.i64_in _ ⟨by omega, by omega⟩
        go_wp2_with fail
        go_ret
        exact ⟨rfl, S5.old⟩
      · have d0 : (cf == 0) = false := by simpa using c0
        have d1 : decide ((T.zs.length : Int) + (k : Int) ≤ (m : Int)) = true := decide_eq_true (by omega)
        have e4 : IntKind.i64.wrap ((k : Int) * ((k : Int) + 1)) = (k : Int) * ((k : Int) + 1) := by
          have : (k : Int) * ((k : Int) + 1) = ((k * (k + 1) : Nat) : Int) := by simp
          rw [this]; exact IntWalk.i64_in _ ⟨by omega, by omega⟩
        have e5 := tri_two k
        have d2 : decide ((m : Int) ≤ (T.zs.length : Int) + (tri k : Nat)) = true := decide_eq_true (by omega)
        go_wp2_with fail
        go_ret
        exact ⟨rfl, S5.old⟩
  · have t1 : decide (1048576 < (ys.length : Int)) = true := by simp; omega
    go_enter Try.func9, Try.ntmps9
    go_wp2_with fail
    go_ret
    exact ⟨rfl, S0.old⟩

end Go.Proofs.Ytpncpeokdcolpaa

/-
  The law FnLoad: the walk.
-/
import Derived.Test.YtfkdandmedojpaaCame
import Derived.Test.YtfkdandmedojpaaDraw3P
import Derived.Test.YtfkdandmedojpaaLoad
namespace Go.Proofs.Ytfkdandmedojpaa
open Go.RowKit

set_option maxHeartbeats 4000000 in
theorem walkFnLoad (w : World) (a : Option Addr) (len cap : Nat) (zs : List Int) (h : IsRow .u8 w a len cap zs) :
    Calls Try.prog 4 #[.slice a len cap] w fun e w' => e = .returned (.bool true) ∧ Below w.heap.size w w' := by
  obtain ⟨ys, rfl, hC, S0⟩ := came_of h
  clear h
  by_cases hs : ys.length ≤ 1048576
  · have t1 : decide (1048576 < (ys.length : Int)) = false := by simp; omega
    go_enter Try.func4, Try.ntmps4
    go_wp2_with fail
    refine (DrawLoadOf_any (by exact S0) hC).mono ?_
    rintro e w1 ⟨T, a1, c1, lo, hi, rfl, hT, hlo, S1⟩
    obtain ⟨n1, n2⟩ := hT.len
    have S2 := S1.alloc #[.int .i64 T.t, .int .i64 T.p, .slice a1 T.zs.length c1] 25
    go_wp2_with fail
    refine (LoadOf_any T a1 c1 _ (by omega) (by exact S2.ints 1 rfl)).mono ?_
    rintro e w2 ⟨rfl, hb⟩
    have S3 := S1.alloc1 hb
    clear S1 S2 hb
    obtain ⟨x0, x1, x2, x3, x4, x5, xz⟩ := facts3 (S3.cells 0 rfl)
    have hsp := Lib.hid fun W h => specLoadOf_any T a1 c1 W (by omega) h
    cases hv : validB T
    · have e1 := load_no hv
      rw [e1] at hsp ⊢
      clear e1
      go_wp2_with fail
      clear x0 x1 x2 x3 x4 x5 xz
      refine (hsp.out _ (by exact S3.ints 1 rfl)).mono ?_
      rintro e w3 ⟨rfl, hb⟩
      have S4 := S3.below hb
      clear S3 hb
      obtain ⟨x0, x1, x2, x3, x4, x5, xz⟩ := facts3 (S4.cells 0 rfl)
      go_wp2_with fail
      clear x0 x1 x2 x3 x4 x5 xz
      refine (hsp.out _ (by exact S4.ints 1 rfl)).mono ?_
      rintro e w5 ⟨rfl, hb⟩
      have S5 := S4.below hb
      clear S4 hb
      obtain ⟨x0, x1, x2, x3, x4, x5, xz⟩ := facts3 (S5.cells 0 rfl)
      go_wp2_with fail
      clear x0 x1 x2 x3 x4 x5 xz
      refine (TableValid_any T a1 c1 _ (by omega) (by exact S5.ints 1 rfl)).mono ?_
      rw [hv]
      rintro e w6 ⟨rfl, hb⟩
      have S6 := S5.below hb
      go_wp2_with fail
      go_ret
      exact ⟨rfl, S6.old⟩
    · obtain ⟨l0, l1, l2, l3, l4⟩ := load_says hv
      have hl := (valid_facts hv).1
      have hcs := CountSlots_any T a1 c1
      have h3 := cnt_all T.zs
      rw [show countK T = (cnt keyP T.zs T.zs.length : Int) by simp [countK, hv], show countT T = (cnt tombP T.zs T.zs.length : Int) by simp [countT, hv], show countF T = (cnt freeP T.zs T.zs.length : Int) by simp [countF, hv]] at hcs
      rw [show countK T = (cnt keyP T.zs T.zs.length : Int) by simp [countK, hv], show countT T = (cnt tombP T.zs T.zs.length : Int) by simp [countT, hv]] at l3 l4
      rw [show countF T = (cnt freeP T.zs T.zs.length : Int) by simp [countF, hv]] at l2
      have HC := Lib.hid hcs
      clear hcs
      generalize loadOf T = n at *
      generalize cnt keyP T.zs T.zs.length = p at *
      generalize cnt tombP T.zs T.zs.length = q at *
      generalize cnt freeP T.zs T.zs.length = r at *
      have d0 : decide (n < 0) = false := decide_eq_false (by omega)
      have d1 : decide (n ≤ 100) = true := decide_eq_true l1
      have d2 : ((n == 100) == ((r : Int) == 0)) = true := by
        by_cases hn : n = 100
        · have := l2.1 hn; simp [hn, this]
        · have : ¬ (r : Int) = 0 := fun e => hn (l2.2 e)
          rw [beq_eq_false_iff_ne.2 hn, beq_eq_false_iff_ne.2 this]; rfl
      have m1 : IntKind.i64.wrap (n * (T.zs.length : Int)) = n * T.zs.length := IntWalk.i64_in _ (by
        have := Int.mul_nonneg l0 (show (0 : Int) ≤ T.zs.length by omega)
        omega)
      have m2 : IntKind.i64.wrap ((p : Int) + (q : Int)) = (p : Int) + q := IntWalk.i64_in _ (by omega)
      have m3 : IntKind.i64.wrap (100 * ((p : Int) + (q : Int))) = 100 * ((p : Int) + q) := IntWalk.i64_in _ (by omega)
      have m4 : IntKind.i64.wrap (n + 1) = n + 1 := IntWalk.i64_in _ (by omega)
      have m5 : IntKind.i64.wrap ((n + 1) * (T.zs.length : Int)) = (n + 1) * T.zs.length := IntWalk.i64_in _ (by
        rw [Int.add_mul]
        have := Int.mul_nonneg l0 (show (0 : Int) ≤ T.zs.length by omega)
        omega)
      have d3 : decide (n * (T.zs.length : Int) ≤ 100 * ((p : Int) + q)) = true := decide_eq_true l3
      have d4 : decide (100 * ((p : Int) + q) < (n + 1) * (T.zs.length : Int)) = true := decide_eq_true l4
      have D2 := Lib.hid d2
      clear l2 l3 l4 h3 d2
      go_wp2_with fail
      clear x0 x1 x2 x3 x4 x5 xz
      refine (hsp.out _ (by exact S3.ints 1 rfl)).mono ?_
      rintro e w3 ⟨rfl, hb⟩
      have S4 := S3.below hb
      clear S3 hb
      obtain ⟨x0, x1, x2, x3, x4, x5, xz⟩ := facts3 (S4.cells 0 rfl)
      go_wp2_with fail
      refine (HC.out _ (by omega) (by exact S4.ints 1 rfl)).mono ?_
      rintro e w5 ⟨rfl, hb⟩
      have S5 := S4.below hb
      clear S4 hb x0 x1 x2 x3 x4 x5 xz
      obtain ⟨x0, x1, x2, x3, x4, x5, xz⟩ := facts3 (S5.cells 0 rfl)
      have d2 := D2.out
      go_wp2_with fail
      go_ret
      exact ⟨rfl, S5.old⟩
  · have t1 : decide (1048576 < (ys.length : Int)) = true := by simp; omega
    go_enter Try.func4, Try.ntmps4
    go_wp2_with fail
    go_ret
    exact ⟨rfl, S0.old⟩

end Go.Proofs.Ytfkdandmedojpaa

/-
  The law FnWhole: the walk.
-/
import Derived.Test.YtddomanabcmnpaaLawRising
import Derived.Test.YtddomanabcmnpaaShare
namespace Go.Proofs.Ytddomanabcmnpaa
open Go.RowKit

theorem dec_cast (X N : Nat) : decide (X = N) = ((X : Int) == (N : Int)) := by
  rw [Bool.eq_iff_iff]; simp only [decide_eq_true_eq, beq_iff_eq]; omega
theorem dec_one (X : Nat) : decide (X = 1) = ((X : Int) == 1) := by
  rw [Bool.eq_iff_iff]; simp only [decide_eq_true_eq, beq_iff_eq]; omega

set_option maxHeartbeats 8000000 in
theorem walkFnWhole (w : World) (a : Option Addr) (len cap : Nat) (zs : List Int) (h : IsRow .u8 w a len cap zs) (a' : Option Addr) (len' cap' : Nat) (zs' : List Int) (h' : IsRow .u8 w a' len' cap' zs') :
    Calls Try.prog 3 #[.slice a len cap, .slice a' len' cap'] w fun e w' => e = .returned (.bool true) ∧ Below w.heap.size w w' := by
  obtain ⟨ys, rfl, hC, S0⟩ := came_of h
  obtain ⟨ys', rfl, hC', S0'⟩ := came_of h'
  have SS := S0'.add (It.bytes w.heap.size a ys) (Nat.le_refl _) (S0.get 0 rfl)
  clear h h' S0'
  by_cases hs : ys.length ≤ 1048576
  · have t1 : decide (1048576 < (ys.length : Int)) = false := by simp; omega
    by_cases hs' : ys'.length ≤ 1048576
    · have t2 : decide (1048576 < (ys'.length : Int)) = false := by simp; omega
      go_enter Try.func3, Try.ntmps3
      go_wp2_with fail
      refine (DrawReachOf_any (by exact SS) hC).mono ?_
      rintro e w1 ⟨n, k, s, bn, bk, bs, rfl, S1⟩
      clear SS S0 t1 t2 hs hs'
      go_wp2_with fail
      refine (ReachOf_any n k s w1).mono ?_
      rintro e w2 ⟨rfl, hb⟩
      have S2 := S1.below hb
      clear S1 hb
      go_wp2_with fail
      refine (DrawIsWhole_any (by exact S2) hC').mono ?_
      rintro e w3 ⟨n', k', s', bn', bk', bs', rfl, S3⟩
      clear S2
      have B1 := Lib.hid fun w => specReachOf_any n k s w
      have B2 := Lib.hid fun w => IsWhole_any n' k' s' w
      have B3 := Lib.hid fun w => specIsWhole_any n' k' s' w
      have B4 := Lib.hid fun w => IsWhole_any n k s w
      clear bn' bk' bs'
      generalize wholeB n' k' s' = b' at B2 B3
      cases ha : askW n k s
      · rw [reachI_no ha] at B1 ⊢
        clear ha B4
        go_wp2_with fail
        refine (B1.out _).mono ?_
        rintro e w4 ⟨rfl, hb4⟩
        have S4 := S3.below hb4
        go_wp2_with fail
        refine (B2.out _).mono ?_
        rintro e w5 ⟨rfl, hb5⟩
        have S5 := S4.below hb5
        go_wp2_with fail
        refine (B3.out _).mono ?_
        rintro e w6 ⟨rfl, hb6⟩
        have S6 := S5.below hb6
        go_wp2_with fail
        refine (B1.out _).mono ?_
        rintro e w7 ⟨rfl, hb7⟩
        have S7 := S6.below hb7
        go_wp2_with fail
        refine (B2.out _).mono ?_
        rintro e w8 ⟨rfl, hb8⟩
        have S8 := S7.below hb8
        go_wp2_with fail
        refine (B3.out _).mono ?_
        rintro e w9 ⟨rfl, hb9⟩
        go_wp2
        go_ret
        exact ⟨by simp, (S8.below hb9).old⟩
      · obtain ⟨N, K, S, rfl, rfl, rfl, n1, n2, hK, hS⟩ := askW_nat ha
        have hle := reach_le (k := K) (s := S) n1 n2
        have hpos := reach_pos (k := K) (s := S) n1
        have HE := Lib.hid fun (e : K = 0) => show reachN N K S * Nat.gcd S N = N from by rw [e]; exact reach_even n1 n2 hS
        have HW := Lib.hid fun (e : K = 0) => show (reachN N K S = N ↔ Nat.gcd S N = 1) from by rw [e]; exact whole_share n1 n2 hS
        have G := Lib.hid (shareI_nat S N)
        have B5 := Lib.hid fun w => shareI_below S N w (by omega) (by omega)
        rw [G.out] at B5
        have W := wholeB_yes ha
        rw [W] at B4
        rw [reachI_yes ha] at B1 ⊢
        clear ha W G
        have gle : Nat.gcd S N ≤ N := Nat.gcd_le_right S n1
        obtain ⟨G, hG⟩ : ∃ G, G = Nat.gcd S N := ⟨_, rfl⟩
        rw [← hG] at HE HW gle
        have B5 : Hid (∀ w : World, Calls Try.prog 23 #[.int .i64 S, .int .i64 N] w fun e w' => e = .returned (.int .i64 (G : Int)) ∧ Below w.heap.size w w') := by rw [hG]; exact B5
        clear hG
        obtain ⟨X, hX⟩ : ∃ X, X = reachN N K S := ⟨_, rfl⟩
        rw [← hX] at B1 hle hpos ⊢
        rw [← hX] at HE
        rw [← hX] at HW
        rw [← hX] at B4
        clear hX
        have xn : ¬ ((X : Int) < 0) := by omega
        go_wp2_with fail
        refine (B1.out _).mono ?_
        rintro e w4 ⟨rfl, hb4⟩
        have S4 := S3.below hb4
        clear S3 hb4 B1
        go_wp2_with fail
        refine (B2.out _).mono ?_
        rintro e w5 ⟨rfl, hb5⟩
        have S5 := S4.below hb5
        clear S4 hb5
        go_wp2_with fail
        refine (B3.out _).mono ?_
        rintro e w6 ⟨rfl, hb6⟩
        have S6 := S5.below hb6
        clear S5 hb6
        by_cases hk0 : K = 0
        · have e1 := HE.out hk0
          have e2 := HW.out hk0
          have P1 : (X : Int) * (G : Int) = (N : Int) := by rw [← e1, Int.natCast_mul]
          have HE2 := Lib.hid (show decide (X = N) = decide (G = 1) from decide_eq_decide.2 e2)
          clear HE HW e1 e2
          subst hk0
          go_wp2_with fail
          refine (B5.out _).mono ?_
          rintro e w7 ⟨rfl, hb7⟩
          have S7 := S6.below hb7
          clear S6 hb7
          go_wp2_with fail
          refine (B4.out _).mono ?_
          rw [HE2.out]
          rintro e w8 ⟨rfl, hb8⟩
          have S8 := S7.below hb8
          clear S7 hb8
          go_wp2
          go_ret
          exact ⟨by simp; exact dec_one G, S8.old⟩
        · have e1 : ((K : Int) == 0) = false := beq_eq_false_iff_ne.2 (by omega)
          have hle' : (X : Int) ≤ (N : Int) := by omega
          have hpos' : (1 : Int) ≤ (X : Int) := by omega
          clear HE HW B5
          go_wp2_with fail
          all_goals first
            | (exfalso; omega)
            | (refine (B4.out _).mono ?_
               rintro e w8 ⟨rfl, hb8⟩
               have S8 := S6.below hb8
               go_wp2
               go_ret
               exact ⟨by simp; exact dec_cast X N, S8.old⟩)
    · have t2 : decide (1048576 < (ys'.length : Int)) = true := by simp; omega
      go_enter Try.func3, Try.ntmps3
      go_wp2
      go_ret
      exact ⟨rfl, S0.old⟩
  · have t1 : decide (1048576 < (ys.length : Int)) = true := by simp; omega
    go_enter Try.func3, Try.ntmps3
    go_wp2
    go_ret
    exact ⟨rfl, S0.old⟩

end Go.Proofs.Ytddomanabcmnpaa

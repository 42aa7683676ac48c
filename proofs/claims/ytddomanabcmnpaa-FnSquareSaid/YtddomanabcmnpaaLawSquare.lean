/-
  The law FnSquare: the walk.
-/
import Derived.Test.YtddomanabcmnpaaLawRising
namespace Go.Proofs.Ytddomanabcmnpaa
open Go.RowKit

set_option maxHeartbeats 4000000 in
theorem walkFnSquare (w : World) (a : Option Addr) (len cap : Nat) (zs : List Int) (h : IsRow .u8 w a len cap zs) :
    Calls Try.prog 5 #[.slice a len cap] w fun e w' => e = .returned (.bool true) ∧ Below w.heap.size w w' := by
  obtain ⟨ys, rfl, hC, S0⟩ := came_of h
  clear h
  by_cases hs : ys.length ≤ 1048576
  · have t1 : decide (1048576 < (ys.length : Int)) = false := by simp; omega
    go_enter Try.func5, Try.ntmps5
    go_wp2_with fail
    refine (DrawReachOf_any (by exact S0) hC).mono ?_
    rintro e w1 ⟨n, k, s, bn, bk, bs, rfl, S1⟩
    clear S0 t1 hs
    go_wp2_with fail
    have A1 := Lib.hid (ReachOf_any n 2 s w1)
    have A2 := Lib.hid fun w => specReachOf_any n 2 s w
    cases ha : askW n 2 s
    · rw [reachI_no ha] at A1 A2
      refine A1.out.mono ?_
      rintro e w2 ⟨rfl, hb⟩
      have S2 := S1.below hb
      clear ha A1 bn
      by_cases hp : n = 3 ∨ n = 5 ∨ n = 7 ∨ n = 11 ∨ n = 13
      · rcases hp with rfl | rfl | rfl | rfl | rfl
        all_goals
          go_wp2_with fail
          refine (A2.out _).mono ?_
          rintro e w3 ⟨rfl, hb3⟩
          go_wp2
          go_ret
          exact ⟨rfl, (S2.below hb3).old⟩
      · have q1 : (n == 3) = false := beq_eq_false_iff_ne.2 (by omega)
        have q2 : (n == 5) = false := beq_eq_false_iff_ne.2 (by omega)
        have q3 : (n == 7) = false := beq_eq_false_iff_ne.2 (by omega)
        have q4 : (n == 11) = false := beq_eq_false_iff_ne.2 (by omega)
        have q5 : (n == 13) = false := beq_eq_false_iff_ne.2 (by omega)
        clear hp
        go_wp2_with fail
        refine (A2.out _).mono ?_
        rintro e w3 ⟨rfl, hb3⟩
        go_wp2
        go_ret
        exact ⟨rfl, (S2.below hb3).old⟩
    · have ha' : askW n ((2 : Nat) : Int) s = true := ha
      obtain ⟨N, S, rfl, rfl, n1, n2, _, hS⟩ := askW_two ha'
      have R : reachI (N : Int) 2 (S : Int) = (reachN N 2 S : Nat) := reachI_yes ha'
      have hle := reach_le (k := 2) (s := S) n1 n2
      have hpos := reach_pos (k := 2) (s := S) n1
      have HO := Lib.hid fun h1 h2 => reach_square (n := N) (s := S) h1 hS h2
      rw [R] at A1 A2
      generalize reachN N 2 S = X at A1 A2 hle hpos HO
      clear ha ha' R
      refine A1.out.mono ?_
      rintro e w2 ⟨rfl, hb⟩
      have S2 := S1.below hb
      clear S1 hb
      have xn : ¬ ((X : Int) < 0) := by omega
      by_cases hp : N = 3 ∨ N = 5 ∨ N = 7 ∨ N = 11 ∨ N = 13
      · rcases hp with rfl | rfl | rfl | rfl | rfl
        · have e3 : ((S : Int).tmod 3) = (S : Int) % 3 := Int.tmod_eq_emod_of_nonneg (by omega)
          cases hev : (S % 3 == 0)
          · have ho : S % 3 ≠ 0 := by simpa using hev
            have e2 : (((S : Int) % 3) == 0) = false := by rw [show ((S : Int) % 3) = ((S % 3 : Nat) : Int) from rfl]; exact beq_eq_false_iff_ne.2 (by omega)
            have hX := HO.out (by simp) ho
            obtain rfl : X = 2 := by omega
            clear HO hX
            go_wp2
            go_ret
            exact ⟨rfl, S2.old⟩
          · have ho : S % 3 = 0 := by simpa using hev
            have e2 : (((S : Int) % 3) == 0) = true := by rw [show ((S : Int) % 3) = ((S % 3 : Nat) : Int) from rfl, ho]; rfl
            clear HO
            go_wp2_with fail
            refine (A2.out _).mono ?_
            rintro e w3 ⟨rfl, hb3⟩
            go_wp2
            go_ret
            exact ⟨by simp, (S2.below hb3).old⟩
        · have e3 : ((S : Int).tmod 5) = (S : Int) % 5 := Int.tmod_eq_emod_of_nonneg (by omega)
          cases hev : (S % 5 == 0)
          · have ho : S % 5 ≠ 0 := by simpa using hev
            have e2 : (((S : Int) % 5) == 0) = false := by rw [show ((S : Int) % 5) = ((S % 5 : Nat) : Int) from rfl]; exact beq_eq_false_iff_ne.2 (by omega)
            have hX := HO.out (by simp) ho
            obtain rfl : X = 3 := by omega
            clear HO hX
            go_wp2
            go_ret
            exact ⟨rfl, S2.old⟩
          · have ho : S % 5 = 0 := by simpa using hev
            have e2 : (((S : Int) % 5) == 0) = true := by rw [show ((S : Int) % 5) = ((S % 5 : Nat) : Int) from rfl, ho]; rfl
            clear HO
            go_wp2_with fail
            refine (A2.out _).mono ?_
            rintro e w3 ⟨rfl, hb3⟩
            go_wp2
            go_ret
            exact ⟨by simp, (S2.below hb3).old⟩
        · have e3 : ((S : Int).tmod 7) = (S : Int) % 7 := Int.tmod_eq_emod_of_nonneg (by omega)
          cases hev : (S % 7 == 0)
          · have ho : S % 7 ≠ 0 := by simpa using hev
            have e2 : (((S : Int) % 7) == 0) = false := by rw [show ((S : Int) % 7) = ((S % 7 : Nat) : Int) from rfl]; exact beq_eq_false_iff_ne.2 (by omega)
            have hX := HO.out (by simp) ho
            obtain rfl : X = 4 := by omega
            clear HO hX
            go_wp2
            go_ret
            exact ⟨rfl, S2.old⟩
          · have ho : S % 7 = 0 := by simpa using hev
            have e2 : (((S : Int) % 7) == 0) = true := by rw [show ((S : Int) % 7) = ((S % 7 : Nat) : Int) from rfl, ho]; rfl
            clear HO
            go_wp2_with fail
            refine (A2.out _).mono ?_
            rintro e w3 ⟨rfl, hb3⟩
            go_wp2
            go_ret
            exact ⟨by simp, (S2.below hb3).old⟩
        · have e3 : ((S : Int).tmod 11) = (S : Int) % 11 := Int.tmod_eq_emod_of_nonneg (by omega)
          cases hev : (S % 11 == 0)
          · have ho : S % 11 ≠ 0 := by simpa using hev
            have e2 : (((S : Int) % 11) == 0) = false := by rw [show ((S : Int) % 11) = ((S % 11 : Nat) : Int) from rfl]; exact beq_eq_false_iff_ne.2 (by omega)
            have hX := HO.out (by simp) ho
            obtain rfl : X = 6 := by omega
            clear HO hX
            go_wp2
            go_ret
            exact ⟨rfl, S2.old⟩
          · have ho : S % 11 = 0 := by simpa using hev
            have e2 : (((S : Int) % 11) == 0) = true := by rw [show ((S : Int) % 11) = ((S % 11 : Nat) : Int) from rfl, ho]; rfl
            clear HO
            go_wp2_with fail
            refine (A2.out _).mono ?_
            rintro e w3 ⟨rfl, hb3⟩
            go_wp2
            go_ret
            exact ⟨by simp, (S2.below hb3).old⟩
        · have e3 : ((S : Int).tmod 13) = (S : Int) % 13 := Int.tmod_eq_emod_of_nonneg (by omega)
          cases hev : (S % 13 == 0)
          · have ho : S % 13 ≠ 0 := by simpa using hev
            have e2 : (((S : Int) % 13) == 0) = false := by rw [show ((S : Int) % 13) = ((S % 13 : Nat) : Int) from rfl]; exact beq_eq_false_iff_ne.2 (by omega)
            have hX := HO.out (by simp) ho
            obtain rfl : X = 7 := by omega
            clear HO hX
            go_wp2
            go_ret
            exact ⟨rfl, S2.old⟩
          · have ho : S % 13 = 0 := by simpa using hev
            have e2 : (((S : Int) % 13) == 0) = true := by rw [show ((S : Int) % 13) = ((S % 13 : Nat) : Int) from rfl, ho]; rfl
            clear HO
            go_wp2_with fail
            refine (A2.out _).mono ?_
            rintro e w3 ⟨rfl, hb3⟩
            go_wp2
            go_ret
            exact ⟨by simp, (S2.below hb3).old⟩
      · have q1 : ((N : Int) == 3) = false := beq_eq_false_iff_ne.2 (by omega)
        have q2 : ((N : Int) == 5) = false := beq_eq_false_iff_ne.2 (by omega)
        have q3 : ((N : Int) == 7) = false := beq_eq_false_iff_ne.2 (by omega)
        have q4 : ((N : Int) == 11) = false := beq_eq_false_iff_ne.2 (by omega)
        have q5 : ((N : Int) == 13) = false := beq_eq_false_iff_ne.2 (by omega)
        clear HO hp
        go_wp2_with fail
        refine (A2.out _).mono ?_
        rintro e w3 ⟨rfl, hb3⟩
        go_wp2
        go_ret
        exact ⟨by simp, (S2.below hb3).old⟩
  · have t1 : decide (1048576 < (ys.length : Int)) = true := by simp; omega
    go_enter Try.func5, Try.ntmps5
    go_wp2
    go_ret
    exact ⟨rfl, S0.old⟩

end Go.Proofs.Ytddomanabcmnpaa

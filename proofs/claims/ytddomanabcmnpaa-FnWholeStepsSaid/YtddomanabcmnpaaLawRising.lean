/-
  The law FnRising: the walk.
-/
import Derived.Test.YtddomanabcmnpaaMath
import Derived.Test.YtddomanabcmnpaaDraw7
import Derived.Test.YtddomanabcmnpaaWayS
import Derived.Test.YtddomanabcmnpaaReachI
namespace Go.Proofs.Ytddomanabcmnpaa
open Go.RowKit

theorem askW_two {n s : Int} {k : Nat} (h : askW n (k : Int) s = true) : ∃ N S : Nat, n = N ∧ s = S ∧ 1 ≤ N ∧ N ≤ 16 ∧ k ≤ 2 ∧ S ≤ 16 := by
  obtain ⟨N, K, S, h1, h2, h3, h4, h5, h6, h7⟩ := askW_nat h
  exact ⟨N, S, h1, h3, h4, h5, by omega, h7⟩

set_option maxHeartbeats 4000000 in
theorem walkFnRising (w : World) (a : Option Addr) (len cap : Nat) (zs : List Int) (h : IsRow .u8 w a len cap zs) :
    Calls Try.prog 4 #[.slice a len cap] w fun e w' => e = .returned (.bool true) ∧ Below w.heap.size w w' := by
  obtain ⟨ys, rfl, hC, S0⟩ := came_of h
  clear h
  by_cases hs : ys.length ≤ 1048576
  · have t1 : decide (1048576 < (ys.length : Int)) = false := by simp; omega
    go_enter Try.func4, Try.ntmps4
    go_wp2_with fail
    refine (DrawIsWhole_any (by exact S0) hC).mono ?_
    rintro e w1 ⟨n, k, s, bn, bk, bs, rfl, S1⟩
    clear S0 t1 hs
    go_wp2_with fail
    have A1 := Lib.hid (ReachOf_any n 1 s w1)
    have A2 := Lib.hid fun w => specReachOf_any n 1 s w
    cases ha : askW n 1 s
    · rw [reachI_no ha] at A1 A2
      refine A1.out.mono ?_
      rintro e w2 ⟨rfl, hb⟩
      have S2 := S1.below hb
      go_wp2_with fail
      refine (A2.out _).mono ?_
      rintro e w3 ⟨rfl, hb3⟩
      go_wp2
      go_ret
      exact ⟨rfl, (S2.below hb3).old⟩
    · have ha' : askW n ((1 : Nat) : Int) s = true := ha
      obtain ⟨N, S, rfl, rfl, n1, n2, _, hS⟩ := askW_two ha'
      have R : reachI (N : Int) 1 (S : Int) = (reachN N 1 S : Nat) := reachI_yes ha'
      have hle := reach_le (k := 1) (s := S) n1 n2
      have hpos := reach_pos (k := 1) (s := S) n1
      have HO := Lib.hid fun h1 h2 => reach_rising (n := N) (s := S) h1 hS h2
      rw [R] at A1 A2
      generalize reachN N 1 S = X at A1 A2 hle hpos HO
      clear ha ha' R
      refine A1.out.mono ?_
      rintro e w2 ⟨rfl, hb⟩
      have S2 := S1.below hb
      clear S1 hb
      have xn : ¬ ((X : Int) < 0) := by omega
      cases hev : (S % 2 == 0)
      · have ho : S % 2 ≠ 0 := by simpa using hev
        have e2 : (((S : Int) % 2) == 0) = false := by rw [show ((S : Int) % 2) = ((S % 2 : Nat) : Int) from rfl]; exact beq_eq_false_iff_ne.2 (by omega)
        have e3 : ((S : Int).tmod 2) = (S : Int) % 2 := Int.tmod_eq_emod_of_nonneg (by omega)
        by_cases hp : N = 1 ∨ N = 2 ∨ N = 4 ∨ N = 8 ∨ N = 16
        · have hX := HO.out hp ho
          subst hX
          clear HO
          rcases hp with rfl | rfl | rfl | rfl | rfl
          all_goals
            go_wp2
            go_ret
            exact ⟨rfl, S2.old⟩
        · clear HO
          have HP := Lib.hid hp
          clear hp
          go_wp2_with fail
          all_goals first
            | (exact (HP.out (by clear e2 e3; omega)).elim)
            | (refine (A2.out _).mono ?_
               rintro e w3 ⟨rfl, hb3⟩
               go_wp2
               go_ret
               exact ⟨by simp, (S2.below hb3).old⟩)
            | (rename_i hh
               simp at hh
               exact (HP.out (by clear e2 e3; omega)).elim)
      · have ho : S % 2 = 0 := by simpa using hev
        have e2 : (((S : Int) % 2) == 0) = true := by rw [show ((S : Int) % 2) = ((S % 2 : Nat) : Int) from rfl, ho]; rfl
        have e3 : ((S : Int).tmod 2) = (S : Int) % 2 := Int.tmod_eq_emod_of_nonneg (by omega)
        clear HO
        go_wp2_with fail
        refine (A2.out _).mono ?_
        rintro e w3 ⟨rfl, hb3⟩
        go_wp2
        go_ret
        exact ⟨by simp, (S2.below hb3).old⟩
  · have t1 : decide (1048576 < (ys.length : Int)) = true := by simp; omega
    go_enter Try.func4, Try.ntmps4
    go_wp2
    go_ret
    exact ⟨rfl, S0.old⟩

end Go.Proofs.Ytddomanabcmnpaa

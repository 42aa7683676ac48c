/-
  The law FnWayBack: the walk.
-/
import Derived.Test.YtddomanabcmnpaaLawWay
import Derived.Test.YtddomanabcmnpaaMath
import Derived.Test.YtddomanabcmnpaaReachI
namespace Go.Proofs.Ytddomanabcmnpaa
open Go.RowKit

theorem back_mod {N S H i : Nat} (hs : S ≤ N) : (((atW N 0 S H i : Nat) : Int) + ((atW N 0 (N - S) H i : Nat) : Int) - 2 * (H : Int)).tmod (N : Int) = 0 := by
  have e1 := Nat.div_add_mod (H + S * i) N
  have e2 := Nat.div_add_mod (H + (N - S) * i) N
  have e3 : S * i + (N - S) * i = N * i := by rw [← Nat.add_mul, Nat.add_sub_cancel' hs]
  have a1 : atW N 0 S H i = (H + S * i) % N := rfl
  have a2 : atW N 0 (N - S) H i = (H + (N - S) * i) % N := rfl
  rw [← a1] at e1
  rw [← a2] at e2
  generalize atW N 0 S H i = A at e1
  generalize atW N 0 (N - S) H i = B at e2
  generalize (H + S * i) / N = u at e1
  generalize (H + (N - S) * i) / N = v at e2
  have e4 : (A : Int) + (B : Int) - 2 * (H : Int) = (N : Int) * ((i : Int) - (u : Int) - (v : Int)) := by
    have c1 : ((N * u + A : Nat) : Int) = ((H + S * i : Nat) : Int) := congrArg _ e1
    have c2 : ((N * v + B : Nat) : Int) = ((H + (N - S) * i : Nat) : Int) := congrArg _ e2
    have c3 : ((S * i + (N - S) * i : Nat) : Int) = ((N * i : Nat) : Int) := congrArg _ e3
    rw [Int.mul_sub, Int.mul_sub, ← Int.natCast_mul, ← Int.natCast_mul, ← Int.natCast_mul]
    omega
  rw [e4]
  exact Int.mul_tmod_right _ _

set_option maxHeartbeats 8000000 in
theorem walkFnWayBack (w : World) (a : Option Addr) (len cap : Nat) (zs : List Int) (h : IsRow .u8 w a len cap zs) :
    Calls Try.prog 9 #[.slice a len cap] w fun e w' => e = .returned (.bool true) ∧ Below w.heap.size w w' := by
  obtain ⟨ys, rfl, hC, S0⟩ := came_of h
  clear h
  by_cases hs : ys.length ≤ 1048576
  · have t1 : decide (1048576 < (ys.length : Int)) = false := by simp; omega
    go_enter Try.func9, Try.ntmps9
    go_wp2_with fail
    refine (DrawWayOf_any (by exact S0) hC).mono ?_
    rintro e w1 ⟨n, k, s, h, bn, bk, bs, bh, rfl, S1⟩
    clear S0 t1 hs
    have A1 := Lib.hid fun w => WayOf_any n k s h w
    have A2 := Lib.hid fun w => specWayOf_any n k s h w
    cases ha : asksW n k s h
    · rw [ha] at A1 A2
      clear ha
      go_wp2_with fail
      refine (A1.out _).mono ?_
      rintro e w2 ⟨a2, c2, rfl, ho, hb⟩
      have S2 := S1.below hb
      clear S1 hb ho
      go_wp2_with fail
      refine (A2.out _).mono ?_
      rintro e w3 ⟨a3, c3, rfl, ho, hb⟩
      have S3 := S2.below hb
      go_wp2
      go_ret
      exact ⟨rfl, S3.old⟩
    · obtain ⟨N, K, S, H, rfl, rfl, rfl, rfl, n1, n2, hK, hS, hH⟩ := asksW_nat ha
      by_cases hK0 : K = 0 ∧ S ≤ N
      · obtain ⟨rfl, hSN⟩ := hK0
        have A3 : Hid (∀ w, Calls Try.prog 25 #[.int .i64 N, .int .i64 0, .int .i64 ((N : Int) - (S : Int)), .int .i64 H] w fun e w' => ∃ (a' : Option Addr) (c' : Nat), e = .returned (.tuple #[.slice a' (wayL N 0 (N - S) H).length c', .bool true]) ∧ OwnInts w' w.heap.size a' (wayL N 0 (N - S) H) ∧ Below w.heap.size w w') := Lib.hid fun w => by
          rw [show (N : Int) - (S : Int) = ((N - S : Nat) : Int) by omega]
          exact WayOf_yes N 0 (N - S) H w n1 n2 (by omega) (by omega) hH
        have R1 : Hid (∀ w, Calls Try.prog 18 #[.int .i64 N, .int .i64 0, .int .i64 S] w fun e w' => e = .returned (.int .i64 (reachN N 0 S : Nat)) ∧ Below w.heap.size w w') := Lib.hid fun w => by
          have := ReachOf_any N (0 : Nat) S w
          rw [reachI_yes (askW_of n1 n2 (by omega) hS)] at this
          exact this
        have R2 : Hid (∀ w, Calls Try.prog 18 #[.int .i64 N, .int .i64 0, .int .i64 ((N : Int) - (S : Int))] w fun e w' => e = .returned (.int .i64 (reachN N 0 S : Nat)) ∧ Below w.heap.size w w') := Lib.hid fun w => by
          rw [show (N : Int) - (S : Int) = ((N - S : Nat) : Int) by omega]
          have := ReachOf_any N (0 : Nat) (N - S : Nat) w
          rw [reachI_yes (askW_of n1 n2 (by omega) (by omega)), ← reach_back n1 n2 hSN] at this
          exact this
        rw [wayI_yes ha, ha] at A1
        rw [ha] at A2
        have L1 := wayL_len N 0 S H
        have L2 := wayL_len N 0 (N - S) H
        have E1 := Lib.hid fun (i : Nat) (hi : i < N) => nth_wayL (k := 0) (s := S) (h := H) hi
        have E2 := Lib.hid fun (i : Nat) (hi : i < N) => nth_wayL (k := 0) (s := N - S) (h := H) hi
        have E3 := Lib.hid fun (i : Nat) => back_mod (N := N) (S := S) (H := H) (i := i) hSN
        have E4 := Lib.hid fun (i : Nat) => atW_lt n1 0 S H i
        have E5 := Lib.hid fun (i : Nat) => atW_lt n1 0 (N - S) H i
        generalize wayL N 0 S H = xs at A1 L1 E1
        generalize wayL N 0 (N - S) H = zs' at A3 L2 E2
        generalize reachN N 0 S = X at R1 R2
        have HL1 := Lib.hid L1
        have HL2 := Lib.hid L2
        have l16 : xs.length ≤ 16 := by omega
        have w3' : ((N : Int) == 0) = false := beq_eq_false_iff_ne.2 (by omega)
        have w4' : ¬ N = 0 := by omega
        clear ha L1 L2
        go_wp2_with fail
        refine (A1.out _).mono ?_
        rintro e w2 ⟨a2, c2, rfl, ho, hb⟩
        have S2 := (S1.below hb).own ho
        clear S1 hb ho
        go_wp2_with fail
        refine (A2.out _).mono ?_
        rintro e w3 ⟨a3, c3, rfl, ho, hb⟩
        have S3 := S2.below hb
        clear S2 hb ho
        go_wp2_with fail
        refine (A3.out _).mono ?_
        rintro e w5 ⟨a5, c5, rfl, ho, hb⟩
        have S5 := (S3.below hb).own ho
        clear S3 hb ho
        have I1 := S5.ints 1 rfl
        have I2 := S5.ints 0 rfl
        rw [HL1.out]
        go_wp2
        go_loopw [13, 65] (fun _ i wr => ∃ j q : Nat, j ≤ N ∧ i = .int .i64 j ∧ wr = w5.drewN q) (fun _ i _ => N - (intOf i).toNat)
        case atStart => exact ⟨0, 0, Nat.zero_le _, rfl, rfl⟩
        case round =>
          obtain ⟨j, q, hj, rfl, rfl⟩ := hrel
          by_cases hlt : j < N
          · have j1 : j < xs.length := by rw [HL1.out]; exact hlt
            have j2 : j < zs'.length := by rw [HL2.out]; exact hlt
            obtain ⟨b1, o1, x, rfl, q1, X1⟩ := I1.at j1
            obtain ⟨b2, o2, y, rfl, q2, Y1⟩ := I2.at j2
            have hx := X1.out; rw [E1.out j hlt] at hx
            have hy := Y1.out; rw [E2.out j hlt] at hy
            have m1 := E3.out j
            have y1 := E4.out j
            have y2 := E5.out j
            generalize atW N 0 S H j = A at hx m1 y1
            generalize atW N 0 (N - S) H j = B at hy m1 y2
            subst hx hy
            clear X1 Y1
            go_wp2
            go_quiet (fail)
            go_wp2
            go_roundw
            case rel => exact ⟨j + 1, _, by omega, by go_num, rfl⟩
            case measure => simp [intOf]; omega
          · have S6 := S5.drewN' q
            go_wp2_with fail
            refine (R1.out _).mono ?_
            rintro e w7 ⟨rfl, hb⟩
            have S7 := S6.below hb
            clear S6 hb
            go_wp2_with fail
            refine (R2.out _).mono ?_
            rintro e w8 ⟨rfl, hb⟩
            have S8 := S7.below hb
            go_wp2
            go_ret
            exact ⟨by simp, S8.old⟩
      · have HK := Lib.hid hK0
        rw [ha] at A1 A2
        clear ha hK0
        go_wp2_with fail
        refine (A1.out _).mono ?_
        rintro e w2 ⟨a2, c2, rfl, ho, hb⟩
        have S2 := S1.below hb
        clear S1 hb ho
        go_wp2_with fail
        refine (A2.out _).mono ?_
        rintro e w3 ⟨a3, c3, rfl, ho, hb⟩
        have S3 := S2.below hb
        clear S2 hb ho
        by_cases hK1 : K = 0
        · have hSN : N < S := by have := HK.out; omega
          subst hK1
          go_wp2
          go_ret
          exact ⟨rfl, S3.old⟩
        · have e1 : ((K : Int) == 0) = false := beq_eq_false_iff_ne.2 (by omega)
          go_wp2
          go_ret
          exact ⟨rfl, S3.old⟩
  · have t1 : decide (1048576 < (ys.length : Int)) = true := by simp; omega
    go_enter Try.func9, Try.ntmps9
    go_wp2
    go_ret
    exact ⟨rfl, S0.old⟩

end Go.Proofs.Ytddomanabcmnpaa

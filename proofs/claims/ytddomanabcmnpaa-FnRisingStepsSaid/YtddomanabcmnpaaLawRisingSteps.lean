/-
  The law FnRisingSteps: the walk.
-/
import Derived.Test.YtddomanabcmnpaaLawWay
namespace Go.Proofs.Ytddomanabcmnpaa
open Go.RowKit

theorem asks_kind (n s h : Int) : asksW n 2 s h = asksW n 1 s h := rfl

theorem step_mod (N k S H m : Nat) (p : Nat) (hp : p = moreK k S m) : (((atW N k S H (m + 1) : Nat) : Int) - ((atW N k S H m : Nat) : Int) - (p : Int)).tmod (N : Int) = 0 := by
  subst hp
  have e1 := Nat.div_add_mod (H + farK k S m) N
  have e2 := Nat.div_add_mod (H + farK k S (m + 1)) N
  have a1 : atW N k S H m = (H + farK k S m) % N := rfl
  have a2 : atW N k S H (m + 1) = (H + farK k S (m + 1)) % N := rfl
  rw [← a1] at e1
  rw [← a2] at e2
  rw [far_more] at e2
  generalize atW N k S H m = A at e1
  generalize atW N k S H (m + 1) = B at e2
  generalize (H + farK k S m) / N = u at e1
  generalize (H + (farK k S m + moreK k S m)) / N = v at e2
  have e4 : (B : Int) - (A : Int) - ((moreK k S m : Nat) : Int) = (N : Int) * ((u : Int) - (v : Int)) := by
    rw [Int.mul_sub, ← Int.natCast_mul, ← Int.natCast_mul]
    omega
  rw [e4]
  exact Int.mul_tmod_right _ _

set_option maxRecDepth 100000 in
set_option maxHeartbeats 8000000 in
theorem walkFnRisingSteps (w : World) (a : Option Addr) (len cap : Nat) (zs : List Int) (h : IsRow .u8 w a len cap zs) :
    Calls Try.prog 10 #[.slice a len cap] w fun e w' => e = .returned (.bool true) ∧ Below w.heap.size w w' := by
  obtain ⟨ys, rfl, hC, S0⟩ := came_of h
  clear h
  by_cases hs : ys.length ≤ 1048576
  · have t1 : decide (1048576 < (ys.length : Int)) = false := by simp; omega
    go_enter Try.func10, Try.ntmps10
    go_wp2_with fail
    refine (DrawWayOf_any (by exact S0) hC).mono ?_
    rintro e w1 ⟨n, k, s, h, bn, bk, bs, bh, rfl, S1⟩
    clear S0 t1 hs
    have A1 := Lib.hid fun w => WayOf_any n 1 s h w
    have A2 := Lib.hid fun w => specWayOf_any n 1 s h w
    have A3 := Lib.hid fun w => WayOf_any n 2 s h w
    rw [asks_kind n s h] at A3
    cases ha : asksW n 1 s h
    · rw [ha] at A1 A2 A3
      clear ha
      go_wp2_with fail
      refine (A1.out _).mono ?_
      rintro e w2 ⟨a2, c2, rfl, ho, hb⟩
      have S2 := S1.below hb
      clear S1 hb ho
      go_wp2_with fail
      refine (A2.out _).mono ?_
      rintro e w3 ⟨a3, c3, rfl, ho, hb⟩
      have S3 := S2.below hb
      clear S2 hb ho
      go_wp2_with fail
      refine (A3.out _).mono ?_
      rintro e w4 ⟨a4, c4, rfl, ho, hb⟩
      have S4 := S3.below hb
      go_wp2
      go_ret
      exact ⟨rfl, S4.old⟩
    · have ha2 : asksW n 2 s h = true := ha
      obtain ⟨N, K, S, H, rfl, hK', rfl, rfl, n1, n2, hK, hS, hH⟩ := asksW_nat ha
      have W1 : wayI (N : Int) 1 (S : Int) (H : Int) = wayL N 1 S H := wayI_yes ha
      have W2 : wayI (N : Int) 2 (S : Int) (H : Int) = wayL N 2 S H := wayI_yes ha2
      rw [W1, ha] at A1
      rw [ha] at A2
      rw [W2, ha] at A3
      have L1 := wayL_len N 1 S H
      have L2 := wayL_len N 2 S H
      have E1 := Lib.hid fun (i : Nat) (hi : i < N) => nth_wayL (k := 1) (s := S) (h := H) hi
      have E2 := Lib.hid fun (i : Nat) (hi : i < N) => nth_wayL (k := 2) (s := S) (h := H) hi
      have E3 := Lib.hid fun (i p : Nat) => step_mod N 1 S H i p
      have E3' := Lib.hid fun (i p : Nat) => step_mod N 2 S H i p
      have E4 := Lib.hid fun (i : Nat) => atW_lt n1 1 S H i
      have E4' := Lib.hid fun (i : Nat) => atW_lt n1 2 S H i
      have E5 := Lib.hid (atW_zero (k := 1) (s := S) hH)
      have E5' := Lib.hid (atW_zero (k := 2) (s := S) hH)
      generalize wayL N 1 S H = xs at A1 L1 E1
      generalize wayL N 2 S H = zs' at A3 L2 E2
      have HL1 := Lib.hid L1
      have HL2 := Lib.hid L2
      have w3' : ((N : Int) == 0) = false := beq_eq_false_iff_ne.2 (by omega)
      have w4' : ¬ N = 0 := by omega
      clear ha ha2 W1 W2 L1 L2 hK' hK
      go_wp2_with fail
      refine (A1.out _).mono ?_
      rintro e w2 ⟨a2, c2, rfl, ho, hb⟩
      have S2 := (S1.below hb).own ho
      clear S1 hb ho
      go_wp2_with fail
      refine (A2.out _).mono ?_
      rintro e w3 ⟨a3, c3, rfl, ho, hb⟩
      have S3 := S2.below hb
      clear S2 hb ho
      go_wp2_with fail
      refine (A3.out _).mono ?_
      rintro e w5 ⟨a5, c5, rfl, ho, hb⟩
      have S5 := (S3.below hb).own ho
      clear S3 hb ho
      have I1 := S5.ints 1 rfl
      have I2 := S5.ints 0 rfl
      go_wp2
      go_loopw [13] (fun i wr => ∃ j q : Nat, 1 ≤ j ∧ j ≤ N ∧ i = .int .i64 j ∧ wr = w5.drewN q) (fun i _ => N - (intOf i).toNat)
      case atStart => exact ⟨1, 0, Nat.le_refl _, n1, rfl, rfl⟩
      case round =>
        obtain ⟨j, q, hj1, hj, rfl, rfl⟩ := hrel
        by_cases hlt : j < N
        · obtain ⟨m, rfl⟩ : ∃ m, j = m + 1 := ⟨j - 1, by omega⟩
          have j1 : m + 1 < xs.length := by rw [HL1.out]; exact hlt
          have j2 : m + 1 < zs'.length := by rw [HL2.out]; exact hlt
          have j3 : m < xs.length := by omega
          have j4 : m < zs'.length := by omega
          obtain ⟨b1, o1, x, rfl, q1, X1⟩ := I1.at j1
          obtain ⟨b2, o2, y, rfl, q2, Y1⟩ := I2.at j2
          obtain ⟨b1', o1', x', e3, q3, X3⟩ := I1.at j3
          obtain ⟨b2', o2', y', e4, q4, Y4⟩ := I2.at j4
          cases e3
          cases e4
          have hx := X1.out; rw [E1.out _ hlt] at hx
          have hy := Y1.out; rw [E2.out _ hlt] at hy
          have hx3 := X3.out; rw [E1.out _ (by omega)] at hx3
          have hy4 := Y4.out; rw [E2.out _ (by omega)] at hy4
          obtain ⟨p, hp⟩ : ∃ p, p = S * (m + 1) := ⟨_, rfl⟩
          obtain ⟨p2, hp2⟩ : ∃ p, p = S * (2 * m + 1) := ⟨_, rfl⟩
          have m1 := E3.out m p hp
          have m2 := E3'.out m p2 hp2
          have pb : p ≤ 256 := by rw [hp]; exact Nat.mul_le_mul hS (show m + 1 ≤ 16 by omega)
          have pb2 : p2 ≤ 528 := by rw [hp2]; exact Nat.mul_le_mul hS (show 2 * m + 1 ≤ 33 by omega)
          have P1 : (S : Int) * ((m : Int) + 1) = (p : Int) := by rw [hp, Int.natCast_mul]; rfl
          have P2 : (S : Int) * (2 * ((m : Int) + 1) - 1) = (p2 : Int) := by rw [hp2, Int.natCast_mul]; congr 1; omega
          clear hp hp2
          have y1 := E4.out m
          have y2 := E4.out (m + 1)
          have y3 := E4'.out m
          have y4 := E4'.out (m + 1)
          generalize atW N 1 S H m = A0 at hx3 m1 y1
          generalize atW N 1 S H (m + 1) = A1' at hx m1 y2
          generalize atW N 2 S H m = B0 at hy4 m2 y3
          generalize atW N 2 S H (m + 1) = B1 at hy m2 y4
          subst hx hy hx3 hy4
          clear X1 Y1 X3 Y4
          have c1 : (((m + 1 : Nat) : Int)) = (m : Int) + 1 := rfl
          go_wp2
          go_quiet (fail)
          go_wp2
          go_roundw
          case rel => exact ⟨m + 1 + 1, _, by omega, by omega, by go_num, rfl⟩
          case measure => simp [intOf]; omega
        · have j1 : 0 < xs.length := by rw [HL1.out]; exact n1
          have j2 : 0 < zs'.length := by rw [HL2.out]; exact n1
          obtain ⟨b1, o1, x, rfl, q1, X1⟩ := I1.at j1
          obtain ⟨b2, o2, y, rfl, q2, Y1⟩ := I2.at j2
          have hx := X1.out; rw [E1.out _ n1, E5.out] at hx
          have hy := Y1.out; rw [E2.out _ n1, E5'.out] at hy
          subst hx hy
          rw [Nat.add_zero] at q1 q2
          have S6 := S5.drewN' q
          go_wp2
          go_ret
          exact ⟨rfl, S6.old⟩
  · have t1 : decide (1048576 < (ys.length : Int)) = true := by simp; omega
    go_enter Try.func10, Try.ntmps10
    go_wp2
    go_ret
    exact ⟨rfl, S0.old⟩

end Go.Proofs.Ytddomanabcmnpaa

/-
  The law FnWay: the walk.
-/
import Derived.Test.YtddomanabcmnpaaDraw7
import Derived.Test.YtddomanabcmnpaaWayO
import Derived.Test.YtddomanabcmnpaaOt
namespace Go.Proofs.Ytddomanabcmnpaa
open Go.RowKit

theorem atW_turn (n k s h i : Nat) : (atW n k s 0 i + h) % n = atW n k s h i := by
  unfold atW
  rw [Nat.mod_add_mod, Nat.zero_add, Nat.add_comm]

theorem St.drewN' {w0 w : World} {l : List It} (h : St w0 w l) (n : Nat) : St w0 (w.drewN n) l := h.below (below_drewN (Below.refl _ _) n)

set_option maxHeartbeats 8000000 in
theorem walkFnWay (w : World) (a : Option Addr) (len cap : Nat) (zs : List Int) (h : IsRow .u8 w a len cap zs) :
    Calls Try.prog 6 #[.slice a len cap] w fun e w' => e = .returned (.bool true) ∧ Below w.heap.size w w' := by
  obtain ⟨ys, rfl, hC, S0⟩ := came_of h
  clear h
  by_cases hs : ys.length ≤ 1048576
  · have t1 : decide (1048576 < (ys.length : Int)) = false := by simp; omega
    go_enter Try.func6, Try.ntmps6
    go_wp2_with fail
    refine (DrawWayOf_any (by exact S0) hC).mono ?_
    rintro e w1 ⟨n, k, s, h, bn, bk, bs, bh, rfl, S1⟩
    clear S0 t1 hs
    have hl := wayI_len n k s h
    have A1 := Lib.hid fun w => WayOf_any n k s h w
    have A2 := Lib.hid fun w => specWayOf_any n k s h w
    cases ha : asksW n k s h
    · have hn := wayI_no ha
      rw [hn, ha] at A1 A2
      clear ha hn hl
      go_wp2_with fail
      refine (A1.out _).mono ?_
      rintro e w2 ⟨a2, c2, rfl, ho, hb⟩
      have S2 := (S1.below hb).own ho
      clear S1 hb ho
      go_wp2_with fail
      refine (A2.out _).mono ?_
      rintro e w3 ⟨a3, c3, rfl, ho, hb⟩
      have S3 := (S2.below hb).own ho
      clear S2 hb ho
      go_wp2_with fail
      refine (otSame_same [] a2 a3 c2 c3 _ (by simp) (by exact S3.ints 1 rfl) (by exact S3.ints 0 rfl)).mono ?_
      rintro e w4 ⟨rfl, hb⟩
      have S4 := S3.below hb
      clear S3 hb
      go_wp2_with fail
      refine (otSame_same [] a2 a3 c2 c3 _ (by simp) (by exact S4.ints 1 rfl) (by exact S4.ints 0 rfl)).mono ?_
      rintro e w5 ⟨rfl, hb⟩
      have S5 := S4.below hb
      go_wp2
      go_ret
      exact ⟨rfl, S5.old⟩
    · obtain ⟨N, K, S, H, rfl, rfl, rfl, rfl, n1, n2, hK, hS, hH⟩ := asksW_nat ha
      have ha0 := asksW_of (h := 0) n1 n2 hK hS n1
      have A3 := Lib.hid fun w => WayOf_yes N K S 0 w n1 n2 hK hS n1
      rw [wayI_yes ha, ha] at A1 A2
      have L1 := wayL_len N K S H
      have L2 := wayL_len N K S 0
      have E1 := Lib.hid fun (i : Nat) (hi : i < N) => nth_wayL (k := K) (s := S) (h := H) hi
      have E2 := Lib.hid fun (i : Nat) (hi : i < N) => nth_wayL (k := K) (s := S) (h := 0) hi
      have E3 := Lib.hid fun (i : Nat) => atW_turn N K S H i
      have E4 := Lib.hid fun (i : Nat) => atW_lt n1 K S 0 i
      have E5 := Lib.hid (atW_zero (k := K) (s := S) hH)
      generalize wayL N K S H = xs at A1 A2 L1 E1
      generalize wayL N K S 0 = zs' at A3 L2 E2
      have HL1 := Lib.hid L1
      have HL2 := Lib.hid L2
      have l16 : xs.length ≤ 16 := by omega
      clear ha ha0 hl L1 L2
      go_wp2_with fail
      refine (A1.out _).mono ?_
      rintro e w2 ⟨a2, c2, rfl, ho, hb⟩
      have S2 := (S1.below hb).own ho
      clear S1 hb ho
      go_wp2_with fail
      refine (A2.out _).mono ?_
      rintro e w3 ⟨a3, c3, rfl, ho, hb⟩
      have S3 := (S2.below hb).own ho
      clear S2 hb ho
      go_wp2_with fail
      refine (otSame_same xs a2 a3 c2 c3 _ (by omega) (by exact S3.ints 1 rfl) (by exact S3.ints 0 rfl)).mono ?_
      rintro e w4 ⟨rfl, hb⟩
      have S4 := S3.below hb
      clear S3 hb
      go_wp2_with fail
      refine (A3.out _).mono ?_
      rintro e w5 ⟨a5, c5, rfl, ho, hb⟩
      have S5 := (S4.below hb).own ho
      clear S4 hb ho
      have I1 := S5.ints 2 rfl
      have I2 := S5.ints 0 rfl
      have w3' : ((N : Int) == 0) = false := beq_eq_false_iff_ne.2 (by omega)
      rw [HL1.out]
      go_wp2
      go_loop [13, 14, 76] (fun _ _ i => ∃ j : Nat, j ≤ N ∧ i = .int .i64 j) (fun _ _ i => N - (intOf i).toNat)
      case atStart => exact ⟨0, Nat.zero_le _, rfl⟩
      case round =>
        obtain ⟨j, hj, rfl⟩ := hrel
        by_cases hlt : j < N
        · have j1 : j < xs.length := by rw [HL1.out]; exact hlt
          have j2 : j < zs'.length := by rw [HL2.out]; exact hlt
          obtain ⟨b1, o1, x, rfl, q1, X⟩ := I1.at j1
          obtain ⟨b2, o2, y, rfl, q2, Y⟩ := I2.at j2
          have hx := X.out; rw [E1.out j hlt, ← E3.out j] at hx
          have hy := Y.out; rw [E2.out j hlt] at hy
          have hy2 := E4.out j
          generalize atW N K S 0 j = Z at hx hy hy2
          subst hx hy
          have m1 : ((Z : Int) + (H : Int)).tmod (N : Int) = (((Z + H) % N : Nat) : Int) := by rw [Int.tmod_eq_emod_of_nonneg (by omega)]; rfl
          have m2 : ((Z : Int) + (H : Int)) % (N : Int) = (((Z + H) % N : Nat) : Int) := rfl
          clear X Y
          generalize (Z + H) % N = V at m1 m2 q1
          go_wp2
          go_round
          case rel => exact ⟨j + 1, by omega, by go_num⟩
          case measure => simp [intOf]; omega
        · have j0 : 0 < xs.length := by rw [HL1.out]; exact n1
          have j1 : ((xs.length : Int) == (N : Int)) = true := by rw [HL1.out]; simp
          obtain ⟨b1, o1, x, rfl, q1, X⟩ := I1.at j0
          have hx := X.out; rw [E1.out 0 n1, E5.out] at hx
          subst hx
          rw [Nat.add_zero] at q1
          go_wp2
          go_ret
          exact ⟨rfl, S5.old⟩
  · have t1 : decide (1048576 < (ys.length : Int)) = true := by simp; omega
    go_enter Try.func6, Try.ntmps6
    go_wp2
    go_ret
    exact ⟨rfl, S0.old⟩

end Go.Proofs.Ytddomanabcmnpaa

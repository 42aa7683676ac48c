/-
  The law FnWholeSteps: the walk.
-/
import Derived.Test.YtddomanabcmnpaaLawWhole
import Derived.Test.YtddomanabcmnpaaLawWay
import Derived.Test.YtddomanabcmnpaaOt
namespace Go.Proofs.Ytddomanabcmnpaa
open Go.RowKit

theorem share_div {A B : Nat} (h : 0 < Nat.gcd A B) : A % Nat.gcd A B = 0 ∧ B % Nat.gcd A B = 0 ∧ Nat.gcd (A / Nat.gcd A B) (B / Nat.gcd A B) = 1 :=
  ⟨Nat.mod_eq_zero_of_dvd (Nat.gcd_dvd_left A B), Nat.mod_eq_zero_of_dvd (Nat.gcd_dvd_right A B), by rw [Nat.gcd_div (Nat.gcd_dvd_left A B) (Nat.gcd_dvd_right A B), Nat.div_self h]⟩

theorem has_step {n s : Nat} (h1 : 1 ≤ n) (h2 : n ≤ 16) (hs : s < n) : decide ((s : Int) ∈ stepsTo n n) = ((Nat.gcd s n : Int) == 1) := by
  rw [Bool.eq_iff_iff, decide_eq_true_eq, mem_stepsTo, whole_share h1 h2 (by omega)]
  simp only [beq_iff_eq]
  omega

set_option maxRecDepth 100000 in
set_option maxHeartbeats 8000000 in
theorem walkFnWholeSteps (w : World) (a : Option Addr) (len cap : Nat) (zs : List Int) (h : IsRow .u8 w a len cap zs) (a' : Option Addr) (len' cap' : Nat) (zs' : List Int) (h' : IsRow .u8 w a' len' cap' zs') :
    Calls Try.prog 7 #[.slice a len cap, .slice a' len' cap'] w fun e w' => e = .returned (.bool true) ∧ Below w.heap.size w w' := by
  obtain ⟨ys, rfl, hC, S0⟩ := came_of h
  obtain ⟨ys', rfl, hC', S0'⟩ := came_of h'
  have SS := S0'.add (It.bytes w.heap.size a ys) (Nat.le_refl _) (S0.get 0 rfl)
  clear h h' S0'
  by_cases hs : ys.length ≤ 1048576
  · have t1 : decide (1048576 < (ys.length : Int)) = false := by simp; omega
    by_cases hs' : ys'.length ≤ 1048576
    · have t2 : decide (1048576 < (ys'.length : Int)) = false := by simp; omega
      go_enter Try.func7, Try.ntmps7
      go_wp2_with fail
      refine (DrawWholeSteps_any (by exact SS) hC).mono ?_
      rintro e w1 ⟨n, bn, rfl, S1⟩
      clear SS S0 t1 t2 hs hs'
      have hl := stepsI_len n
      have A1 := Lib.hid fun w => WholeSteps_any n w
      have A2 := Lib.hid fun w => specWholeSteps_any n w
      have AH := Lib.hid fun (hn : inB n 1 16 = true) => show ∀ j : Nat, (j : Int) < n → decide ((j : Int) ∈ stepsI n) = ((Nat.gcd j n.toNat : Int) == 1) from by
        have h' := inB_iff.1 hn
        obtain ⟨N, rfl⟩ := Int.eq_ofNat_of_zero_le (show 0 ≤ n by omega)
        intro j hj
        rw [stepsI_yes hn]
        exact has_step (by omega) (by omega) (by omega)
      have AN := Lib.hid fun (hn : inB n 1 16 = false) => stepsI_no hn
      generalize stepsI n = xs at hl A1 A2 AH AN
      go_wp2_with fail
      refine (A1.out _).mono ?_
      rintro e w2 ⟨a2, c2, rfl, ho, hb⟩
      have S2 := (S1.below hb).own ho
      clear S1 hb ho
      go_wp2_with fail
      refine (A2.out _).mono ?_
      rintro e w3 ⟨a3, c3, rfl, ho, hb⟩
      have S3 := ((S2.below hb).own ho).turn (l' := It.bytes w.heap.size a' ys' :: It.own w2.heap.size w3.heap.size a3 xs :: It.own w1.heap.size w2.heap.size a2 xs :: []) fun i hi => by
        simp only [List.mem_cons] at hi ⊢
        rcases hi with h | h | h | h
        · exact .inr (.inr (.inl h))
        · exact .inl h
        · exact .inr (.inl h)
        · exact .inr (.inr (.inr h))
      clear S2 hb ho
      go_wp2_with fail
      refine (DrawShareOf_any (by exact S3) hC').mono ?_
      rintro e w4 ⟨x, y, bx, by_, rfl, S4⟩
      clear S3
      obtain ⟨N, rfl⟩ := Int.eq_ofNat_of_zero_le bn.1
      have hN17 : N ≤ 17 := by omega
      have B1 := Lib.hid fun w => shareI_below x y w bx.2 by_.2
      have B2 := Lib.hid fun w => shareS_below x y w bx.2 by_.2
      have B3 := Lib.hid fun w => shareI_below y x w by_.2 bx.2
      rw [shareI_turn y x] at B3
      have hM : max (N : Int) 0 = (N : Int) := by omega
      go_wp2_with fail
      refine (B1.out _).mono ?_
      rintro e w5 ⟨rfl, hb⟩
      have S5 := S4.below hb
      clear S4 hb B1
      go_wp2_with fail
      refine (otSame_same xs a2 a3 c2 c3 _ (by omega) (by exact S5.ints 1 rfl) (by exact S5.ints 0 rfl)).mono ?_
      rintro e w6 ⟨rfl, hb⟩
      have S6 := S5.below hb
      clear S5 hb
      go_wp2_with fail
      refine (B2.out _).mono ?_
      rintro e w7 ⟨rfl, hb⟩
      have S7 := S6.below hb
      clear S6 hb B2
      go_wp2_with fail
      refine (B3.out _).mono ?_
      rintro e w8 ⟨rfl, hb⟩
      have S8 := S7.below hb
      clear S7 hb B3
      by_cases hd : 0 < shareI x y
      · obtain ⟨X, Y, rfl, rfl, hx, hy⟩ : ∃ X Y : Nat, x = X ∧ y = Y ∧ X ≤ 9223372036854775807 ∧ Y ≤ 9223372036854775807 := by
          by_cases hn : x < 0 ∨ y < 0
          · rw [shareI_no hn] at hd; omega
          · exact ⟨x.toNat, y.toNat, by omega, by omega, by omega, by omega⟩
        have hD := shareI_nat X Y
        rw [hD] at hd ⊢
        obtain ⟨g1, g2, g3⟩ := share_div (A := X) (B := Y) (by omega)
        have B4 := Lib.hid fun w => ShareOf_any (X / Nat.gcd X Y : Nat) (Y / Nat.gcd X Y : Nat) w (by have := Nat.div_le_self X (Nat.gcd X Y); omega) (by have := Nat.div_le_self Y (Nat.gcd X Y); omega)
        rw [shareI_nat, g3, Int.natCast_one] at B4
        have hqx := Nat.div_le_self X (Nat.gcd X Y)
        have hqy := Nat.div_le_self Y (Nat.gcd X Y)
        have r1 : (X : Int).tmod (Nat.gcd X Y : Int) = 0 := by rw [Int.tmod_eq_emod_of_nonneg (by omega)]; exact congrArg Int.ofNat g1
        have r2 : (Y : Int).tmod (Nat.gcd X Y : Int) = 0 := by rw [Int.tmod_eq_emod_of_nonneg (by omega)]; exact congrArg Int.ofNat g2
        have r3 : (X : Int) % (Nat.gcd X Y : Int) = 0 := congrArg Int.ofNat g1
        have r4 : (Y : Int) % (Nat.gcd X Y : Int) = 0 := congrArg Int.ofNat g2
        have d1 : (X : Int).tdiv (Nat.gcd X Y : Int) = ((X / Nat.gcd X Y : Nat) : Int) := by rw [Int.tdiv_eq_ediv_of_nonneg (by omega)]; rfl
        have d2 : (Y : Int).tdiv (Nat.gcd X Y : Int) = ((Y / Nat.gcd X Y : Nat) : Int) := by rw [Int.tdiv_eq_ediv_of_nonneg (by omega)]; rfl
        have d3 : (X : Int) / (Nat.gcd X Y : Int) = ((X / Nat.gcd X Y : Nat) : Int) := rfl
        have d4 : (Y : Int) / (Nat.gcd X Y : Int) = ((Y / Nat.gcd X Y : Nat) : Int) := rfl
        clear hD g1 g2 g3
        generalize X / Nat.gcd X Y = QX at B4 d1 d3 hqx
        generalize Y / Nat.gcd X Y = QY at B4 d2 d4 hqy
        generalize Nat.gcd X Y = D at hd r1 r2 r3 r4 d1 d2 d3 d4 ⊢
        have z1 : ((D : Int) == 0) = false := beq_eq_false_iff_ne.2 (by omega)
        have z2 : ¬ D = 0 := by omega
        have z3 : decide ((0 : Int) < (D : Int)) = true := decide_eq_true hd
        have z4 : 0 < D := by omega
        have z5 : decide (0 < D) = true := decide_eq_true z4
        go_wp2_with fail
        go_quiet ((go_at_call 23; refine Calls.quiet_of (B4.out _)))
        clear r1 r2 r3 r4 d1 d2 d3 d4 z1 z2 z3 z5 B4 hd z4
        have S9 := fun q => S8.drewN' q
        clear S8
        go_wp2
        cases hok : inB (N : Int) 1 16
        · have hn := AN.out hok
          subst hn
          clear AN AH A1 A2
          go_loop [13, 91] (fun _ i => ∃ j : Nat, j ≤ N ∧ i = .int .i64 j) (fun _ i => N - (intOf i).toNat)
          case atStart => exact ⟨0, Nat.zero_le _, rfl⟩
          case round =>
            obtain ⟨j, hj, rfl⟩ := hrel
            by_cases hlt : j < N
            · go_wp2
              go_round
              case rel => exact ⟨j + 1, by omega, by go_num⟩
              case measure => simp [intOf]; omega
            · go_wp2
              go_ret
              exact ⟨rfl, (S9 _).old⟩
        · have AH2 := Lib.hid (AH.out hok)
          clear AN AH A1 A2
          have N16 : N ≤ 16 := by have := inB_iff.1 hok; omega
          go_loopw [13, 91] (fun _ i wr => ∃ j : Nat, j ≤ N ∧ i = .int .i64 j ∧ St w wr [It.own w2.heap.size w3.heap.size a3 xs, It.own w1.heap.size w2.heap.size a2 xs]) (fun _ i _ => N - (intOf i).toNat)
          case atStart => exact ⟨0, Nat.zero_le _, rfl, S9 _⟩
          case round =>
            obtain ⟨j, hj, rfl, Sr⟩ := hrel
            by_cases hlt : j < N
            · have e1 := AH2.out j (by omega)
              have B5 := Lib.hid fun w => shareI_below j N w (by omega) (by omega)
              rw [shareI_nat] at B5
              rw [Int.toNat_natCast] at e1
              have I1 := Sr.ints 1 rfl
              have B6 := Lib.hid fun w (h : IntsAt w a2 xs) => otHas_any a2 c2 xs (j : Int) w (by omega) h
              rw [e1] at B6
              generalize Nat.gcd j N = G at B5 B6
              clear e1
              go_wp2_with fail
              refine (B6.out _ I1).mono ?_
              rintro e u1 ⟨rfl, rfl⟩
              go_wp2_with fail
              refine (B5.out _).mono ?_
              rintro e u2 ⟨rfl, hb⟩
              have Sr2 := Sr.below hb
              go_wp2
              go_roundw
              case rel => exact ⟨j + 1, by omega, by go_num, Sr2⟩
              case measure => simp [intOf]; omega
            · go_wp2
              go_ret
              exact ⟨rfl, Sr.old⟩
      · have z3 : decide ((0 : Int) < shareI x y) = false := decide_eq_false hd
        have hd' : ¬ 0 < shareI x y := hd
        generalize shareI x y = D at z3 hd hd' ⊢
        go_wp2_with fail
        go_region
        clear z3 hd hd'
        have S9 := fun q => S8.drewN' q
        clear S8
        go_wp2
        cases hok : inB (N : Int) 1 16
        · have hn := AN.out hok
          subst hn
          clear AN AH A1 A2
          go_loop [13, 91] (fun _ i => ∃ j : Nat, j ≤ N ∧ i = .int .i64 j) (fun _ i => N - (intOf i).toNat)
          case atStart => exact ⟨0, Nat.zero_le _, rfl⟩
          case round =>
            obtain ⟨j, hj, rfl⟩ := hrel
            by_cases hlt : j < N
            · go_wp2
              go_round
              case rel => exact ⟨j + 1, by omega, by go_num⟩
              case measure => simp [intOf]; omega
            · go_wp2
              go_ret
              exact ⟨rfl, (S9 _).old⟩
        · have AH2 := Lib.hid (AH.out hok)
          clear AN AH A1 A2
          have N16 : N ≤ 16 := by have := inB_iff.1 hok; omega
          go_loopw [13, 91] (fun _ i wr => ∃ j : Nat, j ≤ N ∧ i = .int .i64 j ∧ St w wr [It.own w2.heap.size w3.heap.size a3 xs, It.own w1.heap.size w2.heap.size a2 xs]) (fun _ i _ => N - (intOf i).toNat)
          case atStart => exact ⟨0, Nat.zero_le _, rfl, S9 _⟩
          case round =>
            obtain ⟨j, hj, rfl, Sr⟩ := hrel
            by_cases hlt : j < N
            · have e1 := AH2.out j (by omega)
              have B5 := Lib.hid fun w => shareI_below j N w (by omega) (by omega)
              rw [shareI_nat] at B5
              rw [Int.toNat_natCast] at e1
              have I1 := Sr.ints 1 rfl
              have B6 := Lib.hid fun w (h : IntsAt w a2 xs) => otHas_any a2 c2 xs (j : Int) w (by omega) h
              rw [e1] at B6
              generalize Nat.gcd j N = G at B5 B6
              clear e1
              go_wp2_with fail
              refine (B6.out _ I1).mono ?_
              rintro e u1 ⟨rfl, rfl⟩
              go_wp2_with fail
              refine (B5.out _).mono ?_
              rintro e u2 ⟨rfl, hb⟩
              have Sr2 := Sr.below hb
              go_wp2
              go_roundw
              case rel => exact ⟨j + 1, by omega, by go_num, Sr2⟩
              case measure => simp [intOf]; omega
            · go_wp2
              go_ret
              exact ⟨rfl, Sr.old⟩
    · have t2 : decide (1048576 < (ys'.length : Int)) = true := by simp; omega
      go_enter Try.func7, Try.ntmps7
      go_wp2
      go_ret
      exact ⟨rfl, S0.old⟩
  · have t1 : decide (1048576 < (ys.length : Int)) = true := by simp; omega
    go_enter Try.func7, Try.ntmps7
    go_wp2
    go_ret
    exact ⟨rfl, S0.old⟩

end Go.Proofs.Ytddomanabcmnpaa

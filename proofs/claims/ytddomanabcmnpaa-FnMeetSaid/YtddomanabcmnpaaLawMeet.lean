/-
  The law FnMeet: the walk.
-/
import Derived.Test.YtddomanabcmnpaaMath
import Derived.Test.YtddomanabcmnpaaLawWay
import Derived.Test.YtddomanabcmnpaaMeetI
import Derived.Test.YtddomanabcmnpaaShare
namespace Go.Proofs.Ytddomanabcmnpaa
open Go.RowKit

theorem rem_bool (g d : Nat) : (((g : Int) % (d : Int)) == 0) = decide (g % d = 0) := by
  rw [Bool.eq_iff_iff, beq_iff_eq, decide_eq_true_eq]
  exact ⟨fun h => by have : ((g % d : Nat) : Int) = 0 := h; omega, fun h => congrArg Int.ofNat h⟩

set_option maxRecDepth 100000 in
set_option maxHeartbeats 8000000 in
theorem walkFnMeet (w : World) (a : Option Addr) (len cap : Nat) (zs : List Int) (h : IsRow .u8 w a len cap zs) :
    Calls Try.prog 8 #[.slice a len cap] w fun e w' => e = .returned (.bool true) ∧ Below w.heap.size w w' := by
  obtain ⟨ys, rfl, hC, S0⟩ := came_of h
  clear h
  by_cases hs : ys.length ≤ 1048576
  · have t1 : decide (1048576 < (ys.length : Int)) = false := by simp; omega
    go_enter Try.func8, Try.ntmps8
    go_wp2_with fail
    refine (DrawMeetAt_any (by exact S0) hC).mono ?_
    rintro e w1 ⟨n, f, o, s, t, bn, bf, bo, bs, bt, rfl, S1⟩
    clear S0 t1 hs
    have B1 := Lib.hid fun w => MeetAt_any n f o s t w
    have B2 := Lib.hid fun w => specMeetAt_any n f o s t w
    have B3 := Lib.hid fun w => MeetAt_any n s t f o w
    rw [← meetI_turn n f o s t] at B3
    have A1 := Lib.hid fun w => WayOf_any n 0 o f w
    have A2 := Lib.hid fun w => WayOf_any n 0 t s w
    by_cases hb : asksW n 0 o f = true ∧ asksW n 0 t s = true
    · obtain ⟨ha1, ha2⟩ := hb
      obtain ⟨N, K, O, F, rfl, hK, rfl, rfl, n1, n2, _, hO, hF⟩ := asksW_nat ha1
      obtain ⟨N', K', T, S, hN, hK', rfl, rfl, _, _, _, hT, hS⟩ := asksW_nat ha2
      obtain rfl : N = N' := by omega
      clear hN hK hK'
      have W1 : wayI (N : Int) 0 (O : Int) (F : Int) = wayL N 0 O F := wayI_yes ha1
      have W2 : wayI (N : Int) 0 (T : Int) (S : Int) = wayL N 0 T S := wayI_yes ha2
      rw [W1, ha1] at A1
      rw [W2, ha2] at A2
      have HM := meet_gap n1 n2 hO hT hF hS
      have L1 := wayL_len N 0 O F
      have L2 := wayL_len N 0 T S
      have E1 := Lib.hid fun (i : Nat) (hi : i < N) => nth_wayL (k := 0) (s := O) (h := F) hi
      have E2 := Lib.hid fun (i : Nat) (hi : i < N) => nth_wayL (k := 0) (s := T) (h := S) hi
      have EM := Lib.hid fun h => meetN_is (n := N) (f := F) (o := O) (s := S) (t := T) h
      have E4 := Lib.hid fun (i : Nat) => atW_lt n1 0 O F i
      have MY := fun h => meetI_yes (n := N) (f := F) (o := O) (s := S) (t := T) ha1 ha2 h
      have MN := fun h => meetI_none (n := N) (f := F) (o := O) (s := S) (t := T) ha1 ha2 h
      have hle := meetN_le N F O S T
      generalize wayL N 0 O F = xs at A1 L1 E1
      generalize wayL N 0 T S = zs' at A2 L2 E2
      have HL1 := Lib.hid L1
      have HL2 := Lib.hid L2
      clear ha1 ha2 W1 W2 L1 L2 bn bf bo bs bt
      -- the two gaps
      obtain ⟨d, hd, hd1⟩ : ∃ d : Nat, d = apartN O T ∧ d ≤ 16 := ⟨_, rfl, by unfold apartN; split <;> omega⟩
      obtain ⟨g, hg, hg1⟩ : ∃ g : Nat, g = apartN S F ∧ g ≤ 16 := ⟨_, rfl, by unfold apartN; split <;> omega⟩
      have C1 := Lib.hid fun w => shareI_below d N w (by omega) (by omega)
      rw [shareI_nat] at C1
      rw [← hd, ← hg] at HM
      have gp : 1 ≤ Nat.gcd d N := Nat.gcd_pos_of_pos_right _ n1
      have gl : Nat.gcd d N ≤ N := Nat.gcd_le_right _ n1
      generalize Nat.gcd d N = G at C1 HM gp gl
      have RB := rem_bool g G
      have z1 : ((G : Int) == 0) = false := beq_eq_false_iff_ne.2 (by omega)
      have z2 : ¬ G = 0 := by omega
      have z3 : (g : Int).tmod (G : Int) = (g : Int) % (G : Int) := Int.tmod_eq_emod_of_nonneg (by omega)
      have D1 : (T ≤ O ∧ (O : Int) - (T : Int) = (d : Int)) ∨ ((O : Int) - (T : Int) = -(d : Int) ∧ 1 ≤ d) := by
        rw [hd]; unfold apartN; split
        · left; omega
        · right; omega
      have D2 : (F ≤ S ∧ (S : Int) - (F : Int) = (g : Int)) ∨ ((S : Int) - (F : Int) = -(g : Int) ∧ 1 ≤ g) := by
        rw [hg]; unfold apartN; split
        · left; omega
        · right; omega
      clear hd hg
      by_cases hm : meetN N F O S T < N
      · have my := MY hm
        have em := EM.out hm
        have hg0 : g % G = 0 := HM.1 hm
        rw [my] at B1 B2 B3
        clear MY MN my HM hle
        generalize meetN N F O S T = M at B1 B2 B3 hm em
        rw [decide_eq_true hg0] at RB
        go_wp2_with fail
        refine (B1.out _).mono ?_
        rintro e w2 ⟨rfl, hb⟩
        have S2 := S1.below hb
        clear S1 hb
        go_wp2_with fail
        refine (B2.out _).mono ?_
        rintro e w3 ⟨rfl, hb⟩
        have S3 := S2.below hb
        clear S2 hb
        go_wp2_with fail
        refine (B3.out _).mono ?_
        rintro e w4 ⟨rfl, hb⟩
        have S4 := S3.below hb
        clear S3 hb
        go_wp2_with fail
        refine (A1.out _).mono ?_
        rintro e w5 ⟨a5, c5, rfl, ho, hb⟩
        have S5 := (S4.below hb).own ho
        clear S4 hb ho
        go_wp2_with fail
        refine (A2.out _).mono ?_
        rintro e w6 ⟨a6, c6, rfl, ho, hb⟩
        have S6 := (S5.below hb).own ho
        clear S5 hb ho
        have I1 := S6.ints 1 rfl
        have I2 := S6.ints 0 rfl
        have j1 : M < xs.length := by rw [HL1.out]; exact hm
        have j2 : M < zs'.length := by rw [HL2.out]; exact hm
        obtain ⟨b1, o1, x, rfl, q1, X⟩ := I1.at j1
        obtain ⟨b2, o2, y, rfl, q2, Y⟩ := I2.at j2
        have hx := X.out; rw [E1.out M hm] at hx
        have hy := Y.out; rw [E2.out M hm, ← em] at hy
        have hlt := E4.out M
        generalize atW N 0 O F M = V at hx hy hlt
        subst hx hy
        clear X Y em hg0
        have mn : ¬ (N ≤ M) := by omega
        rcases D1 with ⟨d1, e1⟩ | ⟨e1, d1⟩ <;> rcases D2 with ⟨d2, e2⟩ | ⟨e2, d2⟩
        all_goals
          go_wp2
          go_quiet (fail)
          go_wp2_with fail
          refine (C1.out _).mono ?_
          rintro e w7 ⟨rfl, hb⟩
          have S7 := (S6.drewN' _).below hb
          go_wp2
          go_ret
          exact ⟨by simp, S7.old⟩
      · have my := MN (by omega)
        have hg0 : ¬ g % G = 0 := fun h => hm (HM.2 h)
        rw [my] at B1 B2 B3
        rw [decide_eq_false hg0] at RB
        clear MY MN my HM hle hm EM
        go_wp2_with fail
        refine (B1.out _).mono ?_
        rintro e w2 ⟨rfl, hb⟩
        have S2 := S1.below hb
        clear S1 hb
        go_wp2_with fail
        refine (B2.out _).mono ?_
        rintro e w3 ⟨rfl, hb⟩
        have S3 := S2.below hb
        clear S2 hb
        go_wp2_with fail
        refine (B3.out _).mono ?_
        rintro e w4 ⟨rfl, hb⟩
        have S4 := S3.below hb
        clear S3 hb
        go_wp2_with fail
        refine (A1.out _).mono ?_
        rintro e w5 ⟨a5, c5, rfl, ho, hb⟩
        have S5 := (S4.below hb).own ho
        clear S4 hb ho
        go_wp2_with fail
        refine (A2.out _).mono ?_
        rintro e w6 ⟨a6, c6, rfl, ho, hb⟩
        have S6 := (S5.below hb).own ho
        clear S5 hb ho
        clear hg0
        rcases D1 with ⟨d1, e1⟩ | ⟨e1, d1⟩ <;> rcases D2 with ⟨d2, e2⟩ | ⟨e2, d2⟩
        all_goals
          go_wp2
          go_region
          go_wp2_with fail
          refine (C1.out _).mono ?_
          rintro e w7 ⟨rfl, hb⟩
          have S7 := (S6.drewN' _).below hb
          go_wp2
          go_ret
          exact ⟨by simp, S7.old⟩
    · have my := meetI_no (n := n) (f := f) (o := o) (s := s) (t := t) (by
        rcases Bool.eq_false_or_eq_true (asksW n 0 o f) with h | h
        · rcases Bool.eq_false_or_eq_true (asksW n 0 t s) with h' | h'
          · exact absurd ⟨h, h'⟩ hb
          · exact .inr h'
        · exact .inl h)
      rw [my] at B1 B2 B3
      clear my
      go_wp2_with fail
      refine (B1.out _).mono ?_
      rintro e w2 ⟨rfl, hb⟩
      have S2 := S1.below hb
      clear S1 hb
      go_wp2_with fail
      refine (B2.out _).mono ?_
      rintro e w3 ⟨rfl, hb⟩
      have S3 := S2.below hb
      clear S2 hb
      go_wp2_with fail
      refine (B3.out _).mono ?_
      rintro e w4 ⟨rfl, hb⟩
      have S4 := S3.below hb
      clear S3 hb
      go_wp2_with fail
      refine (A1.out _).mono ?_
      rintro e w5 ⟨a5, c5, rfl, ho, hb⟩
      have S5 := (S4.below hb).own ho
      clear S4 hb ho
      go_wp2_with fail
      refine (A2.out _).mono ?_
      rintro e w6 ⟨a6, c6, rfl, ho, hb⟩
      have S6 := (S5.below hb).own ho
      clear S5 hb ho
      cases h1 : asksW n 0 o f
      · go_wp2
        go_ret
        exact ⟨rfl, S6.old⟩
      · have h2 : asksW n 0 t s = false := by
          cases h' : asksW n 0 t s with
          | false => rfl
          | true => exact absurd ⟨h1, h'⟩ hb
        clear hb
        go_wp2
        go_ret
        exact ⟨rfl, S6.old⟩
  · have t1 : decide (1048576 < (ys.length : Int)) = true := by simp; omega
    go_enter Try.func8, Try.ntmps8
    go_wp2
    go_ret
    exact ⟨rfl, S0.old⟩

end Go.Proofs.Ytddomanabcmnpaa

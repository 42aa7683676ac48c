/-
  The law FnTurned: the walk.
-/
import Derived.Test.YtlhbddjaioodkaaTurnC
namespace Go.Proofs.Ytlhbddjaioodkaa
open Go.RowKit

set_option maxHeartbeats 4000000 in
theorem walkFnTurned (w : World) (a : Option Addr) (len cap : Nat) (zs : List Int) (h : IsRow .u8 w a len cap zs) :
    Calls Try.prog 6 #[.slice a len cap] w fun e w' => e = .returned (.bool true) ∧ Below w.heap.size w w' := by
  obtain ⟨ys, rfl, hC, S0⟩ := came_of h
  clear h
  obtain ⟨i0, hi, hz0, hz1, hz2⟩ := info_parts Try.info3
  have HI := Lib.hid hi; have HZ0 := Lib.hid hz0; have HZ1 := Lib.hid hz1; have HZ2 := Lib.hid hz2
  clear hi hz0 hz1 hz2
  by_cases hs : ys.length ≤ 1048576
  · have t1 : decide (1048576 < (ys.length : Int)) = false := by simp; omega
    go_enter Try.func6, Try.ntmps6
    go_wp2_with fail
    refine (DrawHomeOf_any (by exact S0) hC).mono ?_
    rintro e w1 ⟨T, a1, c1, lo, hi, key, rfl, hT, ⟨k1, k2⟩, hlo, S1⟩
    obtain ⟨n1, n2⟩ := hT.len
    obtain ⟨p1, p2⟩ := hT.p
    have S2 := S1.alloc #[.int .i64 T.t, .int .i64 T.p, .slice a1 T.zs.length c1] 25
    go_wp2_with fail
    refine (HomeOf_any T a1 c1 key _ (by omega) (by exact S2.ints 1 rfl)).mono ?_
    rintro e w2 ⟨rfl, hb⟩
    have S3 := S1.alloc1 hb
    clear S1 S2 hb
    obtain ⟨x0, x1, x2, x3, x4, x5, xz⟩ := facts3 (S3.cells 0 rfl)
    go_wp2_with fail
    clear x0 x1 x2 x3 x4 x5 xz
    refine (specHomeOf_any T a1 c1 key _ (by omega) (by exact S3.ints 1 rfl)).mono ?_
    rintro e w3 ⟨rfl, hb⟩
    have S4 := S3.below hb
    clear S3 hb
    obtain ⟨x0, x1, x2, x3, x4, x5, xz⟩ := facts3 (S4.cells 0 rfl)
    rcases homeOf_cases T key with ⟨e1, _⟩ | ⟨e1, hv, ⟨k3, k4⟩, b1, b2⟩
    · rw [e1]
      clear e1
      go_wp2_with fail
      go_ret
      exact ⟨rfl, S4.old⟩
    · rw [e1]
      have E1 := Lib.hid e1
      clear e1
      have HV := Lib.hid hv
      clear hv
      have H := Lib.hid (rfl : homeI T key = homeI T key)
      generalize hg : homeI T key = g at b1 b2 E1 ⊢
      have G := Lib.hid hg
      clear hg H
      have d1 : decide (g < 0) = false := decide_eq_false (by omega)
      by_cases hp : T.p < 15
      · have d2 : decide (15 ≤ T.p) = false := decide_eq_false (by omega)
        go_wp2_with fail
        have R0 := RowBox.start w3 T.t (T.p + 1)
        have z3 : w1.heap.size + 1 ≤ w3.heap.size := S4.sz 0 rfl
        have n0 : T.zs.length ≤ 16 := (valid_facts HV.out).1.2
        have ln : ((T.zs.length : Int) == 0) = false := beq_eq_false_iff_ne.2 (by omega)
        have ln3 : ¬ T.zs = [] := by intro e; rw [e] at n1; simp at n1
        clear x0 x1 x2 x3 x4 x5 xz
        go_loopw [44] (fun i wr => ∃ (k : Nat) (v : Value), k ≤ T.zs.length ∧ i = .int .i64 k ∧ RowBox w3 (w3.heap.size + 1) T.t (T.p + 1) ((turnL T.zs).take k) v wr) (fun i _ => T.zs.length - (intOf i).toNat)
        case atStart => exact ⟨0, _, Nat.zero_le _, rfl, R0⟩
        case round =>
          obtain ⟨k, v, hk, rfl, hr⟩ := hrel
          have S5 := S4.below hr.old
          obtain ⟨x0, x1, x2, x3, x4, x5, xz⟩ := facts3 (S5.cells 0 rfl)
          obtain ⟨q0, q1, q2, f0, f1, f2, hB⟩ := facts3 hr.out
          have HR := Lib.hid hr
          clear hr R0
          by_cases hlt : k < T.zs.length
          · obtain ⟨j, hj⟩ : ∃ j : Nat, (k + T.zs.length - 1) % T.zs.length = j := ⟨_, rfl⟩
            have hj1 : j < T.zs.length := by rw [← hj]; exact Nat.mod_lt _ (by omega)
            have hlk : ((turnL T.zs).take k).length ≤ 16 := by rw [List.length_take, turnL_len]; omega
            obtain ⟨b, o, x, rfl, q, X⟩ := (S5.ints 1 rfl).at hj1
            have hj2 : (j : Int) < (T.zs.length : Int) := by omega
            have hj3 : (0 : Int) ≤ (j : Int) := by omega
            have s1 : IntKind.i64.wrap ((k : Int) + (T.zs.length : Int)) = (k : Int) + T.zs.length := IntWalk.i64_in _ (by omega)
            have s2 : IntKind.i64.wrap ((k : Int) + (T.zs.length : Int) - 1) = (k : Int) + T.zs.length - 1 := IntWalk.i64_in _ (by omega)
            have s3 : ((k : Int) + (T.zs.length : Int) - 1).tmod (T.zs.length : Int) = (j : Int) := by rw [tmod_back _ _ hlt, hj]
            have TK := Lib.hid (turnL_take hlt)
            have HJ := Lib.hid hj
            have HR1 := HR.out
            generalize (turnL T.zs).take k = xs at HR1 TK hlk
            have HR2 := Lib.hid HR1
            clear hj HR HR1
            have SR := (S5.drew).alloc #[.int .i64 x] 3
            go_wp2_with fail
            go_region_law
              (refine step_append_lies _ (by rfl) _ _ _ (by rfl) w3.heap.size 3 i0 _ 1 8 Try.underlying23 HI.out HZ0.out HZ1.out HZ2.out rfl (by omega) _ _ _ (by rfl) (HR2.out.own.drew.alloc _) ⟨wr.heap.size, 0, none⟩ 1 1 [.int .i64 x] (by rfl) (by rfl) (World.news_of_block (cs := #[.int .i64 x]) (t := 3) (fr := (0, 0)) (heap_alloc_new wr.drew _)) (by simp [Value.oneCell']) (by omega) (by unfold maxLen; omega) (by omega) (by simp; omega) (wr.heap.size + 1) (by simp) ?_; intro gg cap w4 hown4 hgrow4 hat4 hlt4; have R4 := HR2.out.drew.step hown4 hgrow4; have u2 := (facts3 R4.2).2.2.1; have u5 := (facts3 R4.2).2.2.2.2.2.1; have uz := (facts3 R4.2).2.2.2.2.2.2)
            all_goals
              clear hown4 hgrow4 hat4 hlt4 x0 x1 x2 x3 x4 x5 xz q0 q1 q2 f0 f1 f2
              go_wp2
              go_roundw
              case rel => exact ⟨k + 1, _, by omega, by go_num, by rw [TK.out, HJ.out, X.out]; exact R4.1⟩
              case measure => simp [intOf]; omega
          · obtain rfl : k = T.zs.length := by omega
            have R := HR.out
            rw [List.take_of_length_le (by rw [turnL_len]; omega)] at R
            obtain ⟨a2, c2, rfl⟩ := ownsRow_slice R.own
            have ho := ownsRow_ints R.own
            have hu := R.out
            have hz := R.old.size
            rw [turnL_len] at hu q2
            have S6 := (S5.add (It.box (w3.heap.size + 1) #[.int .i64 T.t, .int .i64 (T.p + 1), .slice a2 T.zs.length c2] 25) (by show w3.heap.size + 1 + 1 ≤ wr.heap.size; exact hB) hu).own ho
            have z6 : w3.heap.size + 1 < wr.heap.size := hB
            clear R ho hu HR S5 x0 x1 x2 x3 x4 x5 xz q0 q1 q2 f0 f1 f2
            obtain ⟨wo, rfl⟩ : ∃ wo : World, wo = wr := ⟨_, rfl⟩
            go_wp2_with fail
            go_loopw [64] (fun i wr => ∃ (k : Nat), k ≤ T.zs.length ∧ i = .int .i64 k ∧ St w wr [It.own w3.heap.size wo.heap.size a2 (turnL T.zs), It.box (w3.heap.size + 1) #[.int .i64 T.t, .int .i64 (T.p + 1), .slice a2 T.zs.length c2] 25, It.box w1.heap.size #[.int .i64 T.t, .int .i64 T.p, .slice a1 T.zs.length c1] 25, It.own lo hi a1 T.zs]) (fun i _ => T.zs.length - (intOf i).toNat)
            case atStart => exact ⟨0, Nat.zero_le _, rfl, S6⟩
            case round =>
              obtain ⟨k, hk, rfl, Sr⟩ := hrel
              clear S6
              obtain ⟨x0, x1, x2, x3, x4, x5, xz⟩ := facts3 (Sr.cells 2 rfl)
              obtain ⟨q0, q1, q2, f0, f1, f2, hB⟩ := facts3 (Sr.cells 1 rfl)
              by_cases hlt : k < T.zs.length
              · obtain ⟨j, hj⟩ : ∃ j : Nat, (k + 1) % T.zs.length = j := ⟨_, rfl⟩
                have s1 : IntKind.i64.wrap ((k : Int) + 1) = (k : Int) + 1 := IntWalk.i64_in _ (by omega)
                have s3 : ((k : Int) + 1).tmod (T.zs.length : Int) = (j : Int) := by rw [tmod_next, hj]
                have HJ : Hid (awayOf (turn T) j = awayOf T k) := Lib.hid (by rw [← hj]; exact turn_away HV.out hp hlt)
                clear hj
                go_wp2_with fail
                go_region_held3 (fun w' => w'.cell? ⟨w1.heap.size, 0, none⟩ = some (.int .i64 T.t) ∧ w'.cell? ⟨w1.heap.size, 1, none⟩ = some (.int .i64 T.p) ∧ w'.cell? ⟨w1.heap.size, 2, none⟩ = some (.slice a1 T.zs.length c1) ∧
                    w'.cell? ⟨w3.heap.size + 1, 0, none⟩ = some (.int .i64 T.t) ∧ w'.cell? ⟨w3.heap.size + 1, 1, none⟩ = some (.int .i64 (T.p + 1)) ∧ w'.cell? ⟨w3.heap.size + 1, 2, none⟩ = some (.slice a2 T.zs.length c2))
                  (first
                    | exact ⟨x0, x1, x2, q0, q1, q2⟩
                    | exact S7.six 2 1 rfl rfl
                    | exact S8.six 2 1 rfl rfl)
                  (first
                    | ((with_reducible refine (AwayOf_any T a1 c1 k _ (by omega) (by exact Sr.drew.ints 3 rfl)).mono ?_); rintro e w7 ⟨rfl, hb⟩; have S7 := Sr.drew.below hb; clear hb)
                    | ((with_reducible refine (AwayOf_turn T a2 c2 j _ (by omega) (by exact S7.ints 0 rfl)).mono ?_); rintro e w8 ⟨rfl, hb⟩; have S8 := S7.below hb; clear hb; rw [HJ.out]))
                go_wp2
                go_roundw
                case rel => exact ⟨k + 1, by omega, by go_num, S8⟩
                case measure => simp [intOf]; omega
              · have V := Lib.hid (turn_valid HV.out hp)
                have M := Lib.hid (turn_homeOf HV.out hp (inB_true ⟨k3, k4⟩))
                rw [E1.out] at M
                have m0 := Int.emod_nonneg (g + 1) (show (T.zs.length : Int) ≠ 0 by omega)
                have w1' : IntKind.i64.wrap (g + 1) = g + 1 := IntWalk.i64_in _ (by omega)
                have w2' : (g + 1).tmod (T.zs.length : Int) = (g + 1) % T.zs.length := Int.tmod_eq_emod_of_nonneg (by omega)
                generalize (g + 1) % (T.zs.length : Int) = gg at M m0 w2'
                go_wp2_with fail
                go_region_held3 (fun w' => w'.cell? ⟨w3.heap.size + 1, 0, none⟩ = some (.int .i64 T.t) ∧ w'.cell? ⟨w3.heap.size + 1, 1, none⟩ = some (.int .i64 (T.p + 1)) ∧ w'.cell? ⟨w3.heap.size + 1, 2, none⟩ = some (.slice a2 T.zs.length c2))
                  (first
                    | exact ⟨q0, q1, q2⟩
                    | exact S7.three 1 rfl
                    | exact S8.three 1 rfl)
                  (first
                    | (go_at_call 23; refine (TableValid_turn T a2 c2 _ (by omega) (by exact Sr.drew.ints 0 rfl)).mono ?_; rintro e w7 ⟨rfl, hb⟩; have S7 := Sr.drew.below hb; clear hb; rw [V.out])
                    | (go_at_call 17; refine (HomeOf_turn T a2 c2 key _ (by omega) (by exact S7.ints 0 rfl)).mono ?_; rintro e w8 ⟨rfl, hb⟩; have S8 := S7.below hb; clear hb; rw [M.out]))
                go_wp2
                go_ret
                exact ⟨rfl, S8.old⟩
      · have d2 : decide (15 ≤ T.p) = true := decide_eq_true (by omega)
        go_wp2_with fail
        go_ret
        exact ⟨rfl, S4.old⟩
  · have t1 : decide (1048576 < (ys.length : Int)) = true := by simp; omega
    go_enter Try.func6, Try.ntmps6
    go_wp2_with fail
    go_ret
    exact ⟨rfl, S0.old⟩

end Go.Proofs.Ytlhbddjaioodkaa

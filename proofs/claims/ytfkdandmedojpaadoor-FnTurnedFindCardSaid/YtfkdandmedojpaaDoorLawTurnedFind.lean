/-
  The law FnTurnedFind: the walk.
-/
import Derived.Test.YtfkdandmedojpaaDoorTurnC
import Derived.Test.YtfkdandmedojpaaDoorCame
import Derived.Test.YtfkdandmedojpaaDoorDraw2K
import Derived.Test.YtfkdandmedojpaaDoorFindI
import Derived.Test.YtfkdandmedojpaaDoorLostI
import Derived.Test.YtfkdandmedojpaaDoorMath
namespace Go.Proofs.YtfkdandmedojpaaDoor
open Go.RowKit

theorem turnfind_cases {T : Tab} (hv : validB T = true) (hp : T.p < 15) (key : Int) : visOf (turn T) key = visOf T key ∧ soundB (turn T) = soundB T ∧
    ((∃ l l2 : Nat, findOf T key = l ∧ findOf (turn T) key = l2 ∧ l < T.zs.length ∧ ((l : Int) + 1).tmod T.zs.length = l2) ∨ (findOf T key = -1 ∧ findOf (turn T) key = -1)) := by
  have hv2 := turn_valid hv hp
  obtain ⟨⟨l1, l2⟩, _⟩ := valid_facts hv
  refine ⟨?_, turn_sound hv hp, ?_⟩
  · unfold visOf
    rw [hv, hv2, turn_vis hv hp]
  · by_cases hk : inB key 0 99 = true
    · have e1 : findOf T key = findI T key := by simp [findOf, hv, hk]
      have e2 : findOf (turn T) key = findI (turn T) key := by simp [findOf, hv2, hk]
      rw [e1, e2]
      obtain ⟨t1, t2⟩ := turn_find hv hp key
      by_cases hf : 0 ≤ findI T key
      · left
        obtain ⟨f1, _⟩ := find_yes hf
        have hl := lastOf_lt l1 key
        rw [t1 hf, f1]
        refine ⟨lastOf T key, (lastOf T key + 1) % T.zs.length, rfl, by rw [Int.natCast_emod]; rfl, hl, ?_⟩
        rw [Int.tmod_eq_emod_of_nonneg (by omega), Int.natCast_emod]; rfl
      · right
        exact ⟨(find_no (Int.not_le.1 hf)).1, t2 (Int.not_le.1 hf)⟩
    · right
      simp [findOf, hk]

theorem FindKey_turn (T : Tab) (a : Option Addr) (c : Nat) (key : Int) (w : World) (hn : T.zs.length ≤ 100) (h : IntsAt w a (turnL T.zs)) (hL : Laid w) :
    Calls Tryd.prog 7 #[.agg #[.int .i64 T.t, .int .i64 (T.p + 1), .slice a T.zs.length c], .int .i64 key] w fun e w' => e = .returned (.tuple #[.int .i64 (findOf (turn T) key), .bool (decide (0 ≤ findOf (turn T) key))]) ∧ Below w.heap.size w w' := by
  have h1 := FindKey_any (turn T) a c key w (by rw [turn_len]; omega) h hL
  unfold tabV at h1
  rw [turn_len] at h1
  exact h1
theorem VisitsFor_turn (T : Tab) (a : Option Addr) (c : Nat) (key : Int) (w : World) (hn : T.zs.length ≤ 100) (h : IntsAt w a (turnL T.zs)) :
    Calls Tryd.prog 9 #[.agg #[.int .i64 T.t, .int .i64 (T.p + 1), .slice a T.zs.length c], .int .i64 key] w fun e w' => e = .returned (.int .i64 (visOf (turn T) key)) ∧ Below w.heap.size w w' := by
  have h1 := VisitsFor_any (turn T) a c key w (by rw [turn_len]; omega) h
  unfold tabV at h1
  rw [turn_len] at h1
  exact h1
theorem IsSound_turn (T : Tab) (a : Option Addr) (c : Nat) (w : World) (hn : T.zs.length ≤ 100) (h : IntsAt w a (turnL T.zs)) :
    Calls Tryd.prog 20 #[.agg #[.int .i64 T.t, .int .i64 (T.p + 1), .slice a T.zs.length c]] w fun e w' => e = .returned (.bool (soundB (turn T))) ∧ Below w.heap.size w w' := by
  have h1 := IsSound_any (turn T) a c w (by rw [turn_len]; omega) h
  unfold tabV at h1
  rw [turn_len] at h1
  exact h1

set_option maxHeartbeats 4000000 in
theorem walkFnTurnedFind (w : World) (a : Option Addr) (len cap : Nat) (zs : List Int) (h : IsRow .u8 w a len cap zs) (hL : Laid w) :
    Calls Tryd.prog 5 #[.slice a len cap] w fun e w' => e = .returned (.bool true) ∧ Below w.heap.size w w' := by
  obtain ⟨ys, rfl, hC, S0⟩ := came_of h
  clear h
  obtain ⟨i0, hi, hz0, hz1, hz2⟩ := info_parts Tryd.info3
  have HI := Lib.hid hi; have HZ0 := Lib.hid hz0; have HZ1 := Lib.hid hz1; have HZ2 := Lib.hid hz2
  clear hi hz0 hz1 hz2
  by_cases hs : ys.length ≤ 1048576
  · have t1 : decide (1048576 < (ys.length : Int)) = false := by simp; omega
    go_enter Tryd.func5, Tryd.ntmps5
    go_wp2_with fail
    refine (DrawVisitsFor_any (by exact S0) hC).mono ?_
    rintro e w1 ⟨T, a1, c1, lo, hi, key, rfl, hT, ⟨k1, k2⟩, hlo, S1⟩
    obtain ⟨n1, n2⟩ := hT.len
    obtain ⟨p1, p2⟩ := hT.p
    have S2 := S1.alloc #[.int .i64 T.t, .int .i64 T.p, .slice a1 T.zs.length c1] 25
    clear S1
    obtain ⟨x0, x1, x2, x3, x4, x5, xz⟩ := facts3 (S2.cells 0 rfl)
    have hvi := TableValid_any T a1 c1
    have hvs := specTableValid_any T a1 c1
    cases hv : validB T
    · rw [hv] at hvi hvs
      have HVI := Lib.hid hvi
      have HVS := Lib.hid hvs
      clear hvi hvs
      go_wp2_with fail
      go_region_held3 (fun w' => w'.cell? ⟨w1.heap.size, 0, none⟩ = some (.int .i64 T.t) ∧ w'.cell? ⟨w1.heap.size, 1, none⟩ = some (.int .i64 T.p) ∧ w'.cell? ⟨w1.heap.size, 2, none⟩ = some (.slice a1 T.zs.length c1))
        (first
          | exact ⟨x0, x1, x2⟩
          | exact S3.three 0 rfl
          | exact S4.three 0 rfl)
        (first
          | (go_at_call 18; refine (HVI.out _ (by omega) (by exact S2.drew.ints 1 rfl)).mono ?_; rintro e w3 ⟨rfl, hb⟩; have S3 := S2.drew.below hb; clear hb)
          | (go_at_call 19; refine (HVS.out _ (by omega) (by exact S3.ints 1 rfl)).mono ?_; rintro e w4 ⟨rfl, hb⟩; have S4 := S3.below hb; clear hb))
      clear x0 x1 x2 x3 x4 x5 xz
      obtain ⟨x0, x1, x2, x3, x4, x5, xz⟩ := facts3 (S4.cells 0 rfl)
      go_wp2_with fail
      refine (HVI.out _ (by omega) (by exact S4.ints 1 rfl)).mono ?_
      rintro e w5 ⟨rfl, hb⟩
      have S5 := S4.below hb
      go_wp2_with fail
      go_ret
      exact ⟨rfl, S5.old⟩
    · rw [hv] at hvi hvs
      have HVI := Lib.hid hvi
      have HVS := Lib.hid hvs
      have HV := Lib.hid hv
      clear hvi hvs hv
      go_wp2_with fail
      go_region_held3 (fun w' => w'.cell? ⟨w1.heap.size, 0, none⟩ = some (.int .i64 T.t) ∧ w'.cell? ⟨w1.heap.size, 1, none⟩ = some (.int .i64 T.p) ∧ w'.cell? ⟨w1.heap.size, 2, none⟩ = some (.slice a1 T.zs.length c1))
        (first
          | exact ⟨x0, x1, x2⟩
          | exact S3.three 0 rfl
          | exact S4.three 0 rfl)
        (first
          | (go_at_call 18; refine (HVI.out _ (by omega) (by exact S2.drew.ints 1 rfl)).mono ?_; rintro e w3 ⟨rfl, hb⟩; have S3 := S2.drew.below hb; clear hb)
          | (go_at_call 19; refine (HVS.out _ (by omega) (by exact S3.ints 1 rfl)).mono ?_; rintro e w4 ⟨rfl, hb⟩; have S4 := S3.below hb; clear hb))
      clear x0 x1 x2 x3 x4 x5 xz S2 S3
      obtain ⟨x0, x1, x2, x3, x4, x5, xz⟩ := facts3 (S4.cells 0 rfl)
      go_wp2_with fail
      clear x0 x1 x2 x3 x4 x5 xz
      refine (HVI.out _ (by omega) (by exact S4.ints 1 rfl)).mono ?_
      rintro e w5 ⟨rfl, hb⟩
      have S5 := S4.below hb
      clear S4 hb
      obtain ⟨x0, x1, x2, x3, x4, x5, xz⟩ := facts3 (S5.cells 0 rfl)
      by_cases hp : T.p < 15
      · have d2 : decide (15 ≤ T.p) = false := decide_eq_false (by omega)
        go_wp2_with fail
        have R0 := RowBox.start w5 T.t (T.p + 1)
        have z3 : w1.heap.size + 1 ≤ w5.heap.size := S5.sz 0 rfl
        have n0 : T.zs.length ≤ 16 := (valid_facts HV.out).1.2
        have ln : ((T.zs.length : Int) == 0) = false := beq_eq_false_iff_ne.2 (by omega)
        have ln2 : (T.zs.length == 0) = false := beq_eq_false_iff_ne.2 (by omega)
        have ln3 : ¬ T.zs = [] := by intro e; rw [e] at n1; simp at n1
        clear x0 x1 x2 x3 x4 x5 xz
        go_loopw [44] (fun i wr => ∃ (k : Nat) (v : Value), k ≤ T.zs.length ∧ i = .int .i64 k ∧ RowBox w5 (w5.heap.size + 1) T.t (T.p + 1) ((turnL T.zs).take k) v wr) (fun i _ => T.zs.length - (intOf i).toNat)
        case atStart => exact ⟨0, _, Nat.zero_le _, rfl, R0⟩
        case round =>
          obtain ⟨k, v, hk, rfl, hr⟩ := hrel
          have S6 := S5.below hr.old
          obtain ⟨x0, x1, x2, x3, x4, x5, xz⟩ := facts3 (S6.cells 0 rfl)
          obtain ⟨q0, q1, q2, f0, f1, f2, hB⟩ := facts3 hr.out
          have HR := Lib.hid hr
          clear hr R0
          by_cases hlt : k < T.zs.length
          · obtain ⟨j, hj⟩ : ∃ j : Nat, (k + T.zs.length - 1) % T.zs.length = j := ⟨_, rfl⟩
            have hj1 : j < T.zs.length := by rw [← hj]; exact Nat.mod_lt _ (by omega)
            have hlk : ((turnL T.zs).take k).length ≤ 16 := by rw [List.length_take, turnL_len]; omega
            obtain ⟨b, o, x, rfl, q, X⟩ := (S6.ints 1 rfl).at hj1
            have hj2 : (j : Int) < (T.zs.length : Int) := by omega
            have hj3 : (0 : Int) ≤ (j : Int) := by omega
            have s1 : IntKind.i64.wrap ((k : Int) + (T.zs.length : Int)) = (k : Int) + T.zs.length := IntWalk.i64_in _ (by omega)
            have s2 : IntKind.i64.wrap ((k : Int) + (T.zs.length : Int) - 1) = (k : Int) + T.zs.length - 1 := IntWalk.i64_in _ (by omega)
            have s3 : ((k : Int) + (T.zs.length : Int) - 1).tmod (T.zs.length : Int) = (j : Int) := by rw [tmod_back _ _ hlt, hj]
            have TK := Lib.hid (turnL_take hlt)
            have HJ := Lib.hid hj
            have HR1 := HR.out
            generalize (turnL T.zs).take k = xs at HR1 TK hlk
            have HR2 := Lib.hid HR1
            clear hj HR HR1
            have SR := (S6.drew).alloc #[.int .i64 x] 3
            go_wp2_with fail
            go_region_law
              (refine step_append_lies _ (by rfl) _ _ _ (by rfl) w5.heap.size 3 i0 _ 1 8 Tryd.underlying23 HI.out HZ0.out HZ1.out HZ2.out rfl (by omega) _ _ _ (by rfl) (HR2.out.own.drew.alloc _) ⟨wr.heap.size, 0, none⟩ 1 1 [.int .i64 x] (by rfl) (by rfl) (World.news_of_block (cs := #[.int .i64 x]) (t := 3) (fr := (0, 0)) (heap_alloc_new wr.drew _)) (by simp [Value.oneCell']) (by omega) (by unfold maxLen; omega) (by omega) (by simp; omega) (wr.heap.size + 1) (by simp) ?_; intro gg cap w4 hown4 hgrow4 hat4 hlt4; have R4 := HR2.out.drew.step hown4 hgrow4; have u2 := (facts3 R4.2).2.2.1; have u5 := (facts3 R4.2).2.2.2.2.2.1; have uz := (facts3 R4.2).2.2.2.2.2.2)
            all_goals
              clear hown4 hgrow4 hat4 hlt4 x0 x1 x2 x3 x4 x5 xz q0 q1 q2 f0 f1 f2
              go_wp2
              go_roundw
              case rel => exact ⟨k + 1, _, by omega, by go_num, by rw [TK.out, HJ.out, X.out]; exact R4.1⟩
              case measure => simp [intOf]; omega
          · obtain rfl : k = T.zs.length := by omega
            have R := HR.out
            rw [List.take_of_length_le (by rw [turnL_len]; omega)] at R
            obtain ⟨a2, c2, rfl⟩ := ownsRow_slice R.own
            have ho := ownsRow_ints R.own
            have hu := R.out
            have hz := R.old.size
            rw [turnL_len] at hu q2
            have S7 := (S6.add (It.box (w5.heap.size + 1) #[.int .i64 T.t, .int .i64 (T.p + 1), .slice a2 T.zs.length c2] 25) (by show w5.heap.size + 1 + 1 ≤ wr.heap.size; exact hB) hu).own ho
            have z6 : w5.heap.size + 1 < wr.heap.size := hB
            clear R ho hu HR S6 S5 x0 x1 x2 x3 x4 x5 xz q0 q1 q2 f0 f1 f2
            obtain ⟨wo, rfl⟩ : ∃ wo : World, wo = wr := ⟨_, rfl⟩
            obtain ⟨V, SO, hfc⟩ := turnfind_cases HV.out hp key
            have hvt := VisitsFor_turn T a2 c2 key
            have hst := IsSound_turn T a2 c2
            rw [V] at hvt
            rw [SO] at hst
            have HVT := Lib.hid hvt
            have HST := Lib.hid hst
            clear hvt hst V SO
            obtain ⟨x0, x1, x2, x3, x4, x5, xz⟩ := facts3 (S7.cells 2 rfl)
            go_wp2_with fail
            clear x0 x1 x2 x3 x4 x5 xz
            refine (FindKey_any T a1 c1 key _ (by omega) (by exact S7.ints 3 rfl) (hL.below S7.old hL.pos)).mono ?_
            rintro e w7 ⟨rfl, hb⟩
            have S8 := S7.below hb
            clear S7 hb
            obtain ⟨q0, q1, q2, f0, f1, f2, hB⟩ := facts3 (S8.cells 1 rfl)
            have hft := FindKey_turn T a2 c2 key
            rcases hfc with ⟨l, l2, e1, e2, hl, hm⟩ | ⟨e1, e2⟩
            · have d3 : decide ((0 : Int) ≤ (l : Int)) = true := decide_eq_true (by omega)
              have d4 : decide ((0 : Int) ≤ (l2 : Int)) = true := decide_eq_true (by omega)
              rw [e2, d4] at hft
              have HFT := Lib.hid hft
              rw [e1, d3]
              clear e1 e2 hft d3 d4
              have m1 : IntKind.i64.wrap ((l : Int) + 1) = (l : Int) + 1 := IntWalk.i64_in _ (by omega)
              go_wp2_with fail
              clear q0 q1 q2 f0 f1 f2 hB
              refine (HFT.out _ (by omega) (by exact S8.ints 0 rfl) (hL.below S8.old hL.pos)).mono ?_
              rintro e w8 ⟨rfl, hb⟩
              have S9 := S8.below hb
              clear S8 hb
              obtain ⟨x0, x1, x2, x3, x4, x5, xz⟩ := facts3 (S9.cells 2 rfl)
              obtain ⟨q0, q1, q2, f0, f1, f2, hB⟩ := facts3 (S9.cells 1 rfl)
              go_wp2_with fail
              go_region_held3 (fun w' => w'.cell? ⟨w1.heap.size, 0, none⟩ = some (.int .i64 T.t) ∧ w'.cell? ⟨w1.heap.size, 1, none⟩ = some (.int .i64 T.p) ∧ w'.cell? ⟨w1.heap.size, 2, none⟩ = some (.slice a1 T.zs.length c1) ∧
                  w'.cell? ⟨w5.heap.size + 1, 0, none⟩ = some (.int .i64 T.t) ∧ w'.cell? ⟨w5.heap.size + 1, 1, none⟩ = some (.int .i64 (T.p + 1)) ∧ w'.cell? ⟨w5.heap.size + 1, 2, none⟩ = some (.slice a2 T.zs.length c2))
                (first
                  | exact ⟨x0, x1, x2, q0, q1, q2⟩
                  | exact S10.six 2 1 rfl rfl
                  | exact S11.six 2 1 rfl rfl
                  | exact S12.six 2 1 rfl rfl
                  | exact S13.six 2 1 rfl rfl)
                (first
                  | ((with_reducible refine (VisitsFor_any T a1 c1 key _ (by omega) (by exact S9.drew.ints 3 rfl)).mono ?_); rintro e w9 ⟨rfl, hb⟩; have S10 := S9.drew.below hb; clear hb)
                  | ((with_reducible refine (HVT.out _ (by omega) (by exact S10.ints 0 rfl)).mono ?_); rintro e w10 ⟨rfl, hb⟩; have S11 := S10.below hb; clear hb)
                  | ((with_reducible refine (IsSound_any T a1 c1 _ (by omega) (by exact S11.ints 3 rfl)).mono ?_); rintro e w11 ⟨rfl, hb⟩; have S12 := S11.below hb; clear hb)
                  | ((with_reducible refine (HST.out _ (by omega) (by exact S12.ints 0 rfl)).mono ?_); rintro e w12 ⟨rfl, hb⟩; have S13 := S12.below hb; clear hb))
              go_wp2
              go_ret
              exact ⟨rfl, S13.old⟩
            · rw [e2] at hft
              have HFT := Lib.hid hft
              rw [e1]
              clear e1 e2 hft
              go_wp2_with fail
              clear q0 q1 q2 f0 f1 f2 hB
              refine (HFT.out _ (by omega) (by exact S8.ints 0 rfl) (hL.below S8.old hL.pos)).mono ?_
              rintro e w8 ⟨rfl, hb⟩
              have S9 := S8.below hb
              clear S8 hb
              obtain ⟨x0, x1, x2, x3, x4, x5, xz⟩ := facts3 (S9.cells 2 rfl)
              obtain ⟨q0, q1, q2, f0, f1, f2, hB⟩ := facts3 (S9.cells 1 rfl)
              go_wp2_with fail
              refine wp_region_held_drew (S := (fun w' => w'.cell? ⟨w1.heap.size, 0, none⟩ = some (.int .i64 T.t) ∧ w'.cell? ⟨w1.heap.size, 1, none⟩ = some (.int .i64 T.p) ∧ w'.cell? ⟨w1.heap.size, 2, none⟩ = some (.slice a1 T.zs.length c1) ∧ w'.cell? ⟨w5.heap.size + 1, 0, none⟩ = some (.int .i64 T.t) ∧ w'.cell? ⟨w5.heap.size + 1, 1, none⟩ = some (.int .i64 (T.p + 1)) ∧ w'.cell? ⟨w5.heap.size + 1, 2, none⟩ = some (.slice a2 T.zs.length c2))) (by kernel_rfl) ⟨x0, x1, x2, q0, q1, q2⟩ (fun hHeld => ?_)
              refine wpAnyH_take (i := 0) (oi := { dst := some 75, op := .move (.tmp 9), type := _, pos := _, after := _, guard := none }) (v := ?_) rfl (by kernel_rfl) (by kernel_rfl) (by kernel_rfl) (fun _ _ _ h => h) (Or.inl ⟨by rfl, ?_⟩) (by assumption) ?_
              rotate_left
              · (intro w hSw; (try dsimp only at hSw); go_simp; try with_reducible rfl)
              try simp only [Act.put, List.setIfInBounds_toArray, List.set_cons_zero, List.set_cons_succ]
              refine wpAnyH_take (i := 1) (oi := { dst := some 76, op := .move (.tmp 11), type := _, pos := _, after := _, guard := none }) (v := ?_) rfl (by kernel_rfl) (by kernel_rfl) (by kernel_rfl) (fun _ _ _ h => h) (Or.inl ⟨by rfl, ?_⟩) (by assumption) ?_
              rotate_left
              · (intro w hSw; (try dsimp only at hSw); go_simp; try with_reducible rfl)
              try simp only [Act.put, List.setIfInBounds_toArray, List.set_cons_zero, List.set_cons_succ]
              refine wpAnyH_take (i := 2) (oi := { dst := some 77, op := .binOp .eql 4 (.tmp 75) (.tmp 76) 4, type := _, pos := _, after := _, guard := none }) (v := ?_) rfl (by kernel_rfl) (by kernel_rfl) (by kernel_rfl) (fun _ _ _ h => h) (Or.inl ⟨by rfl, ?_⟩) (by assumption) ?_
              rotate_left
              · (intro w hSw; (try dsimp only at hSw); go_simp; try with_reducible rfl)
              try simp only [Act.put, List.setIfInBounds_toArray, List.set_cons_zero, List.set_cons_succ]
              refine wpAnyH_take (i := 3) (oi := { dst := some 78, op := .move (.tmp 77), type := _, pos := _, after := _, guard := none }) (v := ?_) rfl (by kernel_rfl) (by kernel_rfl) (by kernel_rfl) (fun _ _ _ h => h) (Or.inl ⟨by rfl, ?_⟩) (by assumption) ?_
              rotate_left
              · (intro w hSw; (try dsimp only at hSw); go_simp; try with_reducible rfl)
              try simp only [Act.put, List.setIfInBounds_toArray, List.set_cons_zero, List.set_cons_succ]
              refine wpAnyH_take (i := 4) (oi := { dst := some 79, op := .load 25 (.tmp 3), type := _, pos := _, after := _, guard := some (3, true) }) (v := ?_) rfl (by kernel_rfl) (by kernel_rfl) (by kernel_rfl) (fun _ _ _ h => h) (Or.inl ⟨by rfl, ?_⟩) (by assumption) ?_
              rotate_left
              · (intro w hSw; (try dsimp only at hSw); go_simp; try with_reducible rfl)
              try simp only [Act.put, List.setIfInBounds_toArray, List.set_cons_zero, List.set_cons_succ]
              refine wpAnyH_take (i := 5) (oi := { dst := some 80, op := .move (.tmp 4), type := _, pos := _, after := _, guard := some (3, true) }) (v := ?_) rfl (by kernel_rfl) (by kernel_rfl) (by kernel_rfl) (fun _ _ _ h => h) (Or.inl ⟨by rfl, ?_⟩) (by assumption) ?_
              rotate_left
              · (intro w hSw; (try dsimp only at hSw); go_simp; try with_reducible rfl)
              try simp only [Act.put, List.setIfInBounds_toArray, List.set_cons_zero, List.set_cons_succ]
              refine wpAnyH_take (i := 7) (oi := { dst := some 82, op := .load 25 (.tmp 6), type := _, pos := _, after := _, guard := some (3, true) }) (v := ?_) rfl (by kernel_rfl) (by kernel_rfl) (by kernel_rfl) (fun _ _ _ h => h) (Or.inl ⟨by rfl, ?_⟩) (by assumption) ?_
              rotate_left
              · (intro w hSw; (try dsimp only at hSw); go_simp; try with_reducible rfl)
              try simp only [Act.put, List.setIfInBounds_toArray, List.set_cons_zero, List.set_cons_succ]
              refine wpAnyH_take (i := 8) (oi := { dst := some 83, op := .move (.tmp 4), type := _, pos := _, after := _, guard := some (3, true) }) (v := ?_) rfl (by kernel_rfl) (by kernel_rfl) (by kernel_rfl) (fun _ _ _ h => h) (Or.inl ⟨by rfl, ?_⟩) (by assumption) ?_
              rotate_left
              · (intro w hSw; (try dsimp only at hSw); go_simp; try with_reducible rfl)
              try simp only [Act.put, List.setIfInBounds_toArray, List.set_cons_zero, List.set_cons_succ]
              refine wpAnyH_ready (rs := [6]) (by kernel_rfl) (by simp) ?_
              refine AllReadyH.cons (o := { dst := some 81, op := .call { callee := .value (.func 9), args := #[.tmp 79, .tmp 80], argTypes := #[25, 3] }, type := _, pos := _, after := _, guard := some (3, true) }) rfl (fun K hK => ?_) AllReadyH.nil
              go_simp
              ((with_reducible refine (VisitsFor_any T a1 c1 key _ (by omega) (by exact S9.drew.ints 3 rfl)).mono ?_); rintro e w9 ⟨rfl, hb⟩; have S10 := S9.drew.below hb; clear hb)
              try go_wp2_with fail
              refine hK.out _ _ (by exact S10.six 2 1 rfl rfl) (fun hHeld => ?_)
              clear hK K
              try simp only [Act.put, List.setIfInBounds_toArray, List.set_cons_zero, List.set_cons_succ]
              refine wpAnyH_ready (rs := [9]) (by kernel_rfl) (by simp) ?_
              refine AllReadyH.cons (o := { dst := some 84, op := .call { callee := .value (.func 9), args := #[.tmp 82, .tmp 83], argTypes := #[25, 3] }, type := _, pos := _, after := _, guard := some (3, true) }) rfl (fun K hK => ?_) AllReadyH.nil
              go_simp
              ((with_reducible refine (HVT.out _ (by omega) (by exact S10.ints 0 rfl)).mono ?_); rintro e w10 ⟨rfl, hb⟩; have S11 := S10.below hb; clear hb)
              try go_wp2_with fail
              refine hK.out _ _ (by exact S11.six 2 1 rfl rfl) (fun hHeld => ?_)
              clear hK K
              try simp only [Act.put, List.setIfInBounds_toArray, List.set_cons_zero, List.set_cons_succ]
              refine wpAnyH_take (i := 10) (oi := { dst := some 85, op := .binOp .eql 3 (.tmp 81) (.tmp 84) 3, type := _, pos := _, after := _, guard := some (3, true) }) (v := ?_) rfl (by kernel_rfl) (by kernel_rfl) (by kernel_rfl) (fun _ _ _ h => h) (Or.inl ⟨by rfl, ?_⟩) (by assumption) ?_
              rotate_left
              · (intro w hSw; (try dsimp only at hSw); go_simp; try with_reducible rfl)
              try simp only [Act.put, List.setIfInBounds_toArray, List.set_cons_zero, List.set_cons_succ]
              refine wpAnyH_take (i := 11) (oi := { dst := some 86, op := .pick (.tmp 78) (.tmp 85) (.const (.bool false)), type := _, pos := _, after := _, guard := none }) (v := ?_) rfl (by kernel_rfl) (by kernel_rfl) (by kernel_rfl) (fun _ _ _ h => h) (Or.inl ⟨by rfl, ?_⟩) (by assumption) ?_
              rotate_left
              · (intro w hSw; (try dsimp only at hSw); go_simp; try with_reducible rfl)
              try simp only [Act.put, List.setIfInBounds_toArray, List.set_cons_zero, List.set_cons_succ]
              refine wpAnyH_take (i := 12) (oi := { dst := some 87, op := .move (.tmp 86), type := _, pos := _, after := _, guard := none }) (v := ?_) rfl (by kernel_rfl) (by kernel_rfl) (by kernel_rfl) (fun _ _ _ h => h) (Or.inl ⟨by rfl, ?_⟩) (by assumption) ?_
              rotate_left
              · (intro w hSw; (try dsimp only at hSw); go_simp; try with_reducible rfl)
              try simp only [Act.put, List.setIfInBounds_toArray, List.set_cons_zero, List.set_cons_succ]
              refine wpAnyH_take (i := 13) (oi := { dst := some 88, op := .move (.tmp 9), type := _, pos := _, after := _, guard := some (12, true) }) (v := ?_) rfl (by kernel_rfl) (by kernel_rfl) (by kernel_rfl) (fun _ _ _ h => h) (Or.inl ⟨by rfl, ?_⟩) (by assumption) ?_
              rotate_left
              · (intro w hSw; (try dsimp only at hSw); go_simp; try with_reducible rfl)
              try simp only [Act.put, List.setIfInBounds_toArray, List.set_cons_zero, List.set_cons_succ]
              refine wpAnyH_take (i := 14) (oi := { dst := some 89, op := .unOp .not 4 (.tmp 88), type := _, pos := _, after := _, guard := some (12, true) }) (v := ?_) rfl (by kernel_rfl) (by kernel_rfl) (by kernel_rfl) (fun _ _ _ h => h) (Or.inl ⟨by rfl, ?_⟩) (by assumption) ?_
              rotate_left
              · (intro w hSw; (try dsimp only at hSw); go_simp; try with_reducible rfl)
              try simp only [Act.put, List.setIfInBounds_toArray, List.set_cons_zero, List.set_cons_succ]
              refine wpAnyH_take (i := 15) (oi := { dst := some 90, op := .move (.tmp 89), type := _, pos := _, after := _, guard := some (12, true) }) (v := ?_) rfl (by kernel_rfl) (by kernel_rfl) (by kernel_rfl) (fun _ _ _ h => h) (Or.inl ⟨by rfl, ?_⟩) (by assumption) ?_
              rotate_left
              · (intro w hSw; (try dsimp only at hSw); go_simp; try with_reducible rfl)
              try simp only [Act.put, List.setIfInBounds_toArray, List.set_cons_zero, List.set_cons_succ]
              refine wpAnyH_take (i := 16) (oi := { dst := some 91, op := .move (.tmp 10), type := _, pos := _, after := _, guard := some (15, false) }) (v := undef) rfl (by kernel_rfl) (by kernel_rfl) (by kernel_rfl) (fun _ _ _ h => h) (Or.inr ⟨by rfl, rfl⟩) (by assumption) ?_
              try simp only [Act.put, List.setIfInBounds_toArray, List.set_cons_zero, List.set_cons_succ]
              refine wpAnyH_take (i := 17) (oi := { dst := some 92, op := .move (.tmp 8), type := _, pos := _, after := _, guard := some (15, false) }) (v := undef) rfl (by kernel_rfl) (by kernel_rfl) (by kernel_rfl) (fun _ _ _ h => h) (Or.inr ⟨by rfl, rfl⟩) (by assumption) ?_
              try simp only [Act.put, List.setIfInBounds_toArray, List.set_cons_zero, List.set_cons_succ]
              refine wpAnyH_take (i := 18) (oi := { dst := some 93, op := .binOp .add 3 (.tmp 92) (.const (.int .i64 1)) 3, type := _, pos := _, after := _, guard := some (15, false) }) (v := undef) rfl (by kernel_rfl) (by kernel_rfl) (by kernel_rfl) (fun _ _ _ h => h) (Or.inr ⟨by rfl, rfl⟩) (by assumption) ?_
              try simp only [Act.put, List.setIfInBounds_toArray, List.set_cons_zero, List.set_cons_succ]
              refine wpAnyH_take (i := 19) (oi := { dst := some 94, op := .move (.tmp 5), type := _, pos := _, after := _, guard := some (15, false) }) (v := undef) rfl (by kernel_rfl) (by kernel_rfl) (by kernel_rfl) (fun _ _ _ h => h) (Or.inr ⟨by rfl, rfl⟩) (by assumption) ?_
              try simp only [Act.put, List.setIfInBounds_toArray, List.set_cons_zero, List.set_cons_succ]
              refine wpAnyH_take (i := 20) (oi := { dst := some 95, op := .binOp .rem 3 (.tmp 93) (.tmp 94) 3, type := _, pos := _, after := _, guard := some (15, false) }) (v := undef) rfl (by kernel_rfl) (by kernel_rfl) (by kernel_rfl) (fun _ _ _ h => h) (Or.inr ⟨by rfl, rfl⟩) (by assumption) ?_
              try simp only [Act.put, List.setIfInBounds_toArray, List.set_cons_zero, List.set_cons_succ]
              refine wpAnyH_take (i := 21) (oi := { dst := some 96, op := .binOp .eql 3 (.tmp 91) (.tmp 95) 3, type := _, pos := _, after := _, guard := some (15, false) }) (v := undef) rfl (by kernel_rfl) (by kernel_rfl) (by kernel_rfl) (fun _ _ _ h => h) (Or.inr ⟨by rfl, rfl⟩) (by assumption) ?_
              try simp only [Act.put, List.setIfInBounds_toArray, List.set_cons_zero, List.set_cons_succ]
              refine wpAnyH_take (i := 22) (oi := { dst := some 97, op := .pick (.tmp 90) (.const (.bool true)) (.tmp 96), type := _, pos := _, after := _, guard := some (12, true) }) (v := ?_) rfl (by kernel_rfl) (by kernel_rfl) (by kernel_rfl) (fun _ _ _ h => h) (Or.inl ⟨by rfl, ?_⟩) (by assumption) ?_
              rotate_left
              · (intro w hSw; (try dsimp only at hSw); go_simp; try with_reducible rfl)
              try simp only [Act.put, List.setIfInBounds_toArray, List.set_cons_zero, List.set_cons_succ]
              refine wpAnyH_take (i := 23) (oi := { dst := some 98, op := .pick (.tmp 87) (.tmp 97) (.const (.bool false)), type := _, pos := _, after := _, guard := none }) (v := ?_) rfl (by kernel_rfl) (by kernel_rfl) (by kernel_rfl) (fun _ _ _ h => h) (Or.inl ⟨by rfl, ?_⟩) (by assumption) ?_
              rotate_left
              · (intro w hSw; (try dsimp only at hSw); go_simp; try with_reducible rfl)
              try simp only [Act.put, List.setIfInBounds_toArray, List.set_cons_zero, List.set_cons_succ]
              refine wpAnyH_take (i := 24) (oi := { dst := some 99, op := .move (.tmp 98), type := _, pos := _, after := _, guard := none }) (v := ?_) rfl (by kernel_rfl) (by kernel_rfl) (by kernel_rfl) (fun _ _ _ h => h) (Or.inl ⟨by rfl, ?_⟩) (by assumption) ?_
              rotate_left
              · (intro w hSw; (try dsimp only at hSw); go_simp; try with_reducible rfl)
              try simp only [Act.put, List.setIfInBounds_toArray, List.set_cons_zero, List.set_cons_succ]
              refine wpAnyH_take (i := 25) (oi := { dst := some 100, op := .load 25 (.tmp 3), type := _, pos := _, after := _, guard := some (24, true) }) (v := ?_) rfl (by kernel_rfl) (by kernel_rfl) (by kernel_rfl) (fun _ _ _ h => h) (Or.inl ⟨by rfl, ?_⟩) (by assumption) ?_
              rotate_left
              · (intro w hSw; (try dsimp only at hSw); go_simp; try with_reducible rfl)
              try simp only [Act.put, List.setIfInBounds_toArray, List.set_cons_zero, List.set_cons_succ]
              refine wpAnyH_take (i := 27) (oi := { dst := some 102, op := .load 25 (.tmp 6), type := _, pos := _, after := _, guard := some (24, true) }) (v := ?_) rfl (by kernel_rfl) (by kernel_rfl) (by kernel_rfl) (fun _ _ _ h => h) (Or.inl ⟨by rfl, ?_⟩) (by assumption) ?_
              rotate_left
              · (intro w hSw; (try dsimp only at hSw); go_simp; try with_reducible rfl)
              try simp only [Act.put, List.setIfInBounds_toArray, List.set_cons_zero, List.set_cons_succ]
              refine wpAnyH_ready (rs := [26]) (by kernel_rfl) (by simp) ?_
              refine AllReadyH.cons (o := { dst := some 101, op := .call { callee := .value (.func 20), args := #[.tmp 100], argTypes := #[25] }, type := _, pos := _, after := _, guard := some (24, true) }) rfl (fun K hK => ?_) AllReadyH.nil
              go_simp
              ((with_reducible refine (IsSound_any T a1 c1 _ (by omega) (by exact S11.ints 3 rfl)).mono ?_); rintro e w11 ⟨rfl, hb⟩; have S12 := S11.below hb; clear hb)
              try go_wp2_with fail
              refine hK.out _ _ (by exact S12.six 2 1 rfl rfl) (fun hHeld => ?_)
              clear hK K
              try simp only [Act.put, List.setIfInBounds_toArray, List.set_cons_zero, List.set_cons_succ]
              refine wpAnyH_ready (rs := [28]) (by kernel_rfl) (by simp) ?_
              refine AllReadyH.cons (o := { dst := some 103, op := .call { callee := .value (.func 20), args := #[.tmp 102], argTypes := #[25] }, type := _, pos := _, after := _, guard := some (24, true) }) rfl (fun K hK => ?_) AllReadyH.nil
              go_simp
              ((with_reducible refine (HST.out _ (by omega) (by exact S12.ints 0 rfl)).mono ?_); rintro e w12 ⟨rfl, hb⟩; have S13 := S12.below hb; clear hb)
              try go_wp2_with fail
              refine hK.out _ _ (by exact S13.six 2 1 rfl rfl) (fun hHeld => ?_)
              clear hK K
              try simp only [Act.put, List.setIfInBounds_toArray, List.set_cons_zero, List.set_cons_succ]
              refine wpAnyH_take (i := 29) (oi := { dst := some 104, op := .binOp .eql 4 (.tmp 101) (.tmp 103) 4, type := _, pos := _, after := _, guard := some (24, true) }) (v := ?_) rfl (by kernel_rfl) (by kernel_rfl) (by kernel_rfl) (fun _ _ _ h => h) (Or.inl ⟨by rfl, ?_⟩) (by assumption) ?_
              rotate_left
              · (intro w hSw; (try dsimp only at hSw); go_simp; try with_reducible rfl)
              try simp only [Act.put, List.setIfInBounds_toArray, List.set_cons_zero, List.set_cons_succ]
              refine wpAnyH_take (i := 30) (oi := { dst := some 105, op := .pick (.tmp 99) (.tmp 104) (.const (.bool false)), type := _, pos := _, after := _, guard := none }) (v := ?_) rfl (by kernel_rfl) (by kernel_rfl) (by kernel_rfl) (fun _ _ _ h => h) (Or.inl ⟨by rfl, ?_⟩) (by assumption) ?_
              rotate_left
              · (intro w hSw; (try dsimp only at hSw); go_simp; try with_reducible rfl)
              try simp only [Act.put, List.setIfInBounds_toArray, List.set_cons_zero, List.set_cons_succ]
              refine wpAnyH_take (i := 31) (oi := { dst := some 2, op := .assign (.tmp 105), type := _, pos := _, after := _, guard := none }) (v := ?_) rfl (by kernel_rfl) (by kernel_rfl) (by kernel_rfl) (fun _ _ _ h => h) (Or.inl ⟨by rfl, ?_⟩) (by assumption) ?_
              rotate_left
              · (intro w hSw; (try dsimp only at hSw); go_simp; try with_reducible rfl)
              try simp only [Act.put, List.setIfInBounds_toArray, List.set_cons_zero, List.set_cons_succ]
              refine wpAnyH_done (by kernel_rfl) ?_ _
              go_wp2
              go_ret
              exact ⟨rfl, S13.old⟩
      · have d2 : decide (15 ≤ T.p) = true := decide_eq_true (by omega)
        go_wp2_with fail
        go_ret
        exact ⟨rfl, S5.old⟩
  · have t1 : decide (1048576 < (ys.length : Int)) = true := by simp; omega
    go_enter Tryd.func5, Tryd.ntmps5
    go_wp2_with fail
    go_ret
    exact ⟨rfl, S0.old⟩

end Go.Proofs.YtfkdandmedojpaaDoor

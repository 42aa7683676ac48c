/-
  MissVisits and WorstMiss of the program.
-/
import Derived.Test.YtpncpeokdcolpaaGreatDoorCostA
namespace Go.Proofs.YtpncpeokdcolpaaGreatDoor
open Go.RowKit Go.Shelf
attribute [local go_sem] Oper.semAt_some

/-- The sum of the first k of 16 costs. -/
def costSum (T : Tab) (k : Nat) : Nat := missTo T (min k T.zs.length)
theorem costSum_succ (T : Tab) (k : Nat) : (costSum T (k + 1) : Int) = costSum T k + costT T T.zs.length k := by
  unfold costSum costT
  by_cases h : k < T.zs.length
  · rw [Nat.min_eq_left (by omega), Nat.min_eq_left (by omega), missTo_succ, if_pos h]
    omega
  · rw [Nat.min_eq_right (by omega), Nat.min_eq_right (by omega), if_neg h]
    omega
theorem costT_bounds (T : Tab) (l1 : 1 ≤ T.zs.length) (l2 : T.zs.length ≤ 16) (k : Nat) : 0 ≤ costT T T.zs.length k ∧ costT T T.zs.length k ≤ 16 := by
  unfold costT
  split
  · have := (cntN_bounds (p := freeAt T k) l1).2
    unfold missN
    omega
  · omega
theorem costSum_le (T : Tab) (l1 : 1 ≤ T.zs.length) (l2 : T.zs.length ≤ 16) (k : Nat) : costSum T k ≤ 256 := by
  have h1 := missTo_le l1 (min k T.zs.length)
  have h2 : min k T.zs.length * T.zs.length ≤ 16 * 16 := Nat.mul_le_mul (by omega) l2
  unfold costSum
  omega

set_option maxRecDepth 100000 in
set_option maxHeartbeats 2000000 in
theorem MissVisits_any (T : Tab) (a : Option Addr) (c : Nat) (w : World) (hx : T.zs.length ≤ 9223372036854775807) (h1 : IntsAt w a T.zs) :
    Calls Tryz.prog 25 #[tabV T a c] w fun e w' => e = .returned (.int .i64 (missAll T)) ∧ Below w.heap.size w w' := by
  have S0 := tabBox c 27 h1
  cases hv : validB T
  · go_enter Tryz.func25, Tryz.ntmps25
    go_wp2_with fail
    refine (TableValid_any T a c _ hx (by exact S0.reads 1 rfl)).mono ?_
    rw [hv]
    rintro e w1 ⟨rfl, hb⟩
    have S1 := S0.below hb
    go_wp2
    go_ret
    exact ⟨by simp [missAll, hv], S1.old⟩
  · obtain ⟨⟨l1, l2⟩, _⟩ := valid_facts hv
    have R : Hid (missAll T = (costSum T 16 : Nat)) := Lib.hid (by simp [missAll, hv, costSum, Nat.min_eq_right l2])
    have HV := Lib.hid hv
    have HM := Lib.hid fun W h => missesOf_any T a c W hv h
    obtain ⟨C, hC⟩ : ∃ C, C = costK (costT T T.zs.length) := ⟨_, rfl⟩
    have HC : Hid (∀ j, j < 16 → C[j]? = some (.int .i64 (costT T T.zs.length j))) := Lib.hid fun j hj => by rw [hC]; exact costK_at _ hj
    rw [← hC] at HM
    clear hC hv
    go_enter Tryz.func25, Tryz.ntmps25
    go_wp2_with fail
    refine (TableValid_any T a c _ hx (by exact S0.reads 1 rfl)).mono ?_
    rw [HV.out]
    rintro e w1 ⟨rfl, hb⟩
    have S1 := S0.below hb
    clear S0 hb
    obtain ⟨x0, x1, x2, x3, x4, x5, xz⟩ := facts3 (S1.cells 0 rfl)
    go_wp2_with fail
    refine (HM.out _ (by exact S1.reads 1 rfl)).mono ?_
    rintro e w2 ⟨rfl, hb⟩
    have S2 := S1.below hb
    clear S1 hb x0 x1 x2 x3 x4 x5 xz
    go_wp2
    go_loop [3, 11] (fun s i => ∃ j : Nat, j ≤ 16 ∧ i = .int .i64 j ∧ s = .int .i64 (costSum T j : Nat)) (fun _ i => 16 - (intOf i).toNat)
    case atStart => exact ⟨0, by omega, rfl, by simp [costSum, missTo]⟩
    case round =>
      obtain ⟨j, hj, rfl, rfl⟩ := hrel
      by_cases hlt : j < 16
      · have j0 : (0 : Int) ≤ (j : Int) := by omega
        have j1 : (j : Int) < 16 := by omega
        have hc := HC.out j hlt
        have HS := Lib.hid (costSum_succ T j)
        have hb1 := costT_bounds T l1 l2 j
        have hb2 := costSum_le T l1 l2 j
        generalize costT T T.zs.length j = x at hc HS hb1
        generalize hq : costSum T (j + 1) = q at HS
        have HQ := Lib.hid hq
        clear hq
        generalize costSum T j = s at HS hb2 ⊢
        have IX := fun w => index_cost hlt hc w
        go_wp2
        go_round
        case rel => exact ⟨j + 1, by omega, by go_num, by rw [HQ.out, HS.out]⟩
        case measure => simp [intOf]; omega
      · obtain rfl : j = 16 := by omega
        go_wp2
        go_ret
        exact ⟨by rw [R.out]; rfl, S2.old⟩

/-- The first of the first k numbers than which none is greater. -/
def firstMax (zs : List Int) : Nat → Nat
  | 0 => 0
  | k + 1 => if nth zs (firstMax zs k) < nth zs k then k else firstMax zs k
theorem firstMax_le (zs : List Int) (k : Nat) : firstMax zs k ≤ k := by
  induction k with
  | zero => exact Nat.le_refl _
  | succ k ih =>
    unfold firstMax
    split <;> omega
theorem firstMax_worst (T : Tab) {zs : List Int} (h : ∀ j, j < T.zs.length → nth zs j = (missN T j : Int)) : ∀ k, k ≤ T.zs.length → firstMax zs k = worstTo T k := by
  intro k
  induction k with
  | zero => intro _; rfl
  | succ k ih =>
    intro hk
    have h1 := ih (by omega)
    have h2 := worstTo_le T k
    unfold firstMax worstTo
    rw [h1, h _ (by omega), h k (by omega)]
    by_cases c : missN T (worstTo T k) < missN T k
    · rw [if_pos c, if_pos (by omega)]
    · rw [if_neg c, if_neg (by omega)]

theorem slice_costs (n b : Nat) (hn : n ≤ 16) (w : World) : (Instr.sliceAt 96 (.pointer (some ⟨b, 0, none⟩)) none (some (.int .i64 n)) none).run Tryz.prog w = .ok (.slice (some ⟨b, 0, none⟩) n 16) w := by
  have ha : Tryz.prog.arrayLen 96 = 16 := by kernel_rfl
  have hs : (sizeOf (Tryz.prog.elem 96)).run Tryz.prog w = .ok 1 w := by kernel_rfl
  rw [run_sliceAt_array_h (P := Tryz.prog) w 96 ⟨b, 0, none⟩ (by kernel_rfl) .i64 (n : Int) (by omega) (by rw [ha]; omega), hs]
  simp [ha, slicedAt, Result.andThen, Addr.add]

end Go.Proofs.YtpncpeokdcolpaaGreatDoor

/-
  MissVisits and WorstMiss of the program.
-/
import Derived.Test.YtpncpeokdcolpaaCostA
namespace Go.Proofs.Ytpncpeokdcolpaa
open Go.RowKit Go.Shelf
attribute [local go_sem] Oper.semAt_some

/-- The sum of the first k of 16 costs. -/
def costSum (T : Tab) (k : Nat) : Nat := missTo T (min k T.zs.length)
theorem costSum_succ (T : Tab) (k : Nat) : (costSum T (k + 1) : Int) = costSum T k + costT T T.zs.length k := by
  unfold costSum costT
  by_cases h : k < T.zs.length
  · rw [Nat.min_eq_left (by omega), Nat.min_eq_left (by omega), missTo_succ, if_pos h]
    omega
  · rw [Nat.min_eq_right (by omega), Nat.min_eq_right (by omega), if_neg h]
    omega
theorem costT_bounds (T : Tab) (l1 : 1 ≤ T.zs.length) (l2 : T.zs.length ≤ 16) (k : Nat) : 0 ≤ costT T T.zs.length k ∧ costT T T.zs.length k ≤ 16 := by
  unfold costT
  split
  · have := (cntN_bounds (p := freeAt T k) l1).2
    unfold missN
    omega
  · omega
theorem costSum_le (T : Tab) (l1 : 1 ≤ T.zs.length) (l2 : T.zs.length ≤ 16) (k : Nat) : costSum T k ≤ 256 := by
  have h1 := missTo_le l1 (min k T.zs.length)
  have h2 : min k T.zs.length * T.zs.length ≤ 16 * 16 := Nat.mul_le_mul (by omega) l2
  unfold costSum
  omega

set_option maxRecDepth 100000 in
set_option maxHeartbeats 2000000 in
theorem MissVisits_any (T : Tab) (a : Option Addr) (c : Nat) (w : World) (hx : T.zs.length ≤ 9223372036854775807) (h1 : IntsAt w a T.zs) :
    Calls Try.prog 18 #[tabV T a c] w fun e w' => e = .returned (.int .i64 (missAll T)) ∧ Below w.heap.size w w' := by
  have S0 := tabBox c 27 h1
  cases hv : validB T
  · go_enter Try.func18, Try.ntmps18
    go_wp2_with fail
    refine (TableValid_any T a c _ hx (by exact S0.reads 1 rfl)).mono ?_
    rw [hv]
    rintro e w1 ⟨rfl, hb⟩
    have S1 := S0.below hb
    go_wp2
    go_ret
    exact ⟨by simp [missAll, hv], S1.old⟩
  · obtain ⟨⟨l1, l2⟩, _⟩ := valid_facts hv
    have R : Hid (missAll T = (costSum T 16 : Nat)) := Lib.hid (by simp [missAll, hv, costSum, Nat.min_eq_right l2])
    have HV := Lib.hid hv
    have HM := Lib.hid fun W h => missesOf_any T a c W hv h
    obtain ⟨C, hC⟩ : ∃ C, C = costK (costT T T.zs.length) := ⟨_, rfl⟩
    have HC : Hid (∀ j, j < 16 → C[j]? = some (.int .i64 (costT T T.zs.length j))) := Lib.hid fun j hj => by rw [hC]; exact costK_at _ hj
    rw [← hC] at HM
    clear hC hv
    go_enter Try.func18, Try.ntmps18
    go_wp2_with fail
    refine (TableValid_any T a c _ hx (by exact S0.reads 1 rfl)).mono ?_
    rw [HV.out]
    rintro e w1 ⟨rfl, hb⟩
    have S1 := S0.below hb
    clear S0 hb
    obtain ⟨x0, x1, x2, x3, x4, x5, xz⟩ := facts3 (S1.cells 0 rfl)
    go_wp2_with fail
    refine (HM.out _ (by exact S1.reads 1 rfl)).mono ?_
    rintro e w2 ⟨rfl, hb⟩
    have S2 := S1.below hb
    clear S1 hb x0 x1 x2 x3 x4 x5 xz
    go_wp2
    go_loop [3, 11] (fun s i => ∃ j : Nat, j ≤ 16 ∧ i = .int .i64 j ∧ s = .int .i64 (costSum T j : Nat)) (fun _ i => 16 - (intOf i).toNat)
    case atStart => exact ⟨0, by omega, rfl, by simp [costSum, missTo]⟩
    case round =>
      obtain ⟨j, hj, rfl, rfl⟩ := hrel
      by_cases hlt : j < 16
      · have j0 : (0 : Int) ≤ (j : Int) := by omega
        have j1 : (j : Int) < 16 := by omega
        have hc := HC.out j hlt
        have HS := Lib.hid (costSum_succ T j)
        have hb1 := costT_bounds T l1 l2 j
        have hb2 := costSum_le T l1 l2 j
        generalize costT T T.zs.length j = x at hc HS hb1
        generalize hq : costSum T (j + 1) = q at HS
        have HQ := Lib.hid hq
        clear hq
        generalize costSum T j = s at HS hb2 ⊢
        have IX := fun w => index_cost hlt hc w
        go_wp2
        go_round
        case rel => exact ⟨j + 1, by omega, by go_num, by rw [HQ.out, HS.out]⟩
        case measure => simp [intOf]; omega
      · obtain rfl : j = 16 := by omega
        go_wp2
        go_ret
        exact ⟨by rw [R.out]; rfl, S2.old⟩

/-- The first of the first k numbers than which none is greater. -/
def firstMax (zs : List Int) : Nat → Nat
  | 0 => 0
  | k + 1 => if nth zs (firstMax zs k) < nth zs k then k else firstMax zs k
theorem firstMax_le (zs : List Int) (k : Nat) : firstMax zs k ≤ k := by
  induction k with
  | zero => exact Nat.le_refl _
  | succ k ih =>
    unfold firstMax
    split <;> omega
theorem firstMax_worst (T : Tab) {zs : List Int} (h : ∀ j, j < T.zs.length → nth zs j = (missN T j : Int)) : ∀ k, k ≤ T.zs.length → firstMax zs k = worstTo T k := by
  intro k
  induction k with
  | zero => intro _; rfl
  | succ k ih =>
    intro hk
    have h1 := ih (by omega)
    have h2 := worstTo_le T k
    unfold firstMax worstTo
    rw [h1, h _ (by omega), h k (by omega)]
    by_cases c : missN T (worstTo T k) < missN T k
    · rw [if_pos c, if_pos (by omega)]
    · rw [if_neg c, if_neg (by omega)]

theorem worst1_any (x y : Int) (w : World) : Calls Try.prog 46 #[.int .i64 x, .int .i64 y] w fun e w' => e = .returned (.bool (decide (y < x))) ∧ w = w' := by
  by_cases h : y < x
  · have d1 : decide (y < x) = true := decide_eq_true h
    rw [d1]
    go_enter Try.func46, Try.ntmps46
    go_wp2
    go_ret
    exact ⟨rfl, rfl⟩
  · have d1 : decide (y < x) = false := decide_eq_false h
    rw [d1]
    go_enter Try.func46, Try.ntmps46
    go_wp2
    go_ret
    exact ⟨rfl, rfl⟩

set_option maxRecDepth 100000 in
set_option maxHeartbeats 2000000 in
theorem firstGreatest_any (zs : List Int) (a : Option Addr) (c : Nat) (w : World) (hl : zs.length ≤ 1000) (h1 : IntsAt w a zs) :
    Calls Try.prog 45 #[.slice a zs.length c, .func (.func 46) #[] #[]] w fun e w' => e = .returned (.int .i64 (firstMax zs zs.length : Nat)) ∧ Below w.heap.size w w' := by
  go_enter Try.func45, Try.ntmps45
  go_wp2_with fail
  go_loop [5, 10] (fun s i => ∃ j : Nat, j ≤ zs.length ∧ i = .int .i64 j ∧ s = .int .i64 (firstMax zs j : Nat)) (fun _ i => zs.length - (intOf i).toNat)
  case atStart => exact ⟨0, Nat.zero_le _, rfl, rfl⟩
  case round =>
    obtain ⟨j, hj, rfl, rfl⟩ := hrel
    by_cases hlt : j < zs.length
    · have hm := firstMax_le zs j
      have HS : Hid (firstMax zs (j + 1) = if nth zs (firstMax zs j) < nth zs j then j else firstMax zs j) := Lib.hid rfl
      obtain ⟨b, o, x, rfl, q, X⟩ := h1.at hlt
      obtain ⟨b2, o2, y, ea, q2, Y⟩ := h1.at (k := firstMax zs j) (by omega)
      cases ea
      rw [X.out, Y.out] at HS
      generalize hq : firstMax zs (j + 1) = r at HS
      have HQ := Lib.hid hq
      clear hq
      generalize firstMax zs j = m at hm HS q2 Y ⊢
      have m0 : (0 : Int) ≤ (m : Int) := by omega
      have m1 : (m : Int) < (zs.length : Int) := by omega
      by_cases hyx : y < x
      · have d1 : decide (y < x) = true := decide_eq_true hyx
        go_wp2_with (first | (go_at_call 46; refine (worst1_any _ _ _).mono ?_; rw [d1]; rintro e w' ⟨rfl, rfl⟩))
        go_round
        case rel => exact ⟨j + 1, by omega, by go_num, by rw [HQ.out, HS.out, if_pos hyx]⟩
        case measure => simp [intOf]; omega
      · have d1 : decide (y < x) = false := decide_eq_false hyx
        go_wp2_with (first | (go_at_call 46; refine (worst1_any _ _ _).mono ?_; rw [d1]; rintro e w' ⟨rfl, rfl⟩))
        go_round
        case rel => exact ⟨j + 1, by omega, by go_num, by rw [HQ.out, HS.out, if_neg (by omega)]⟩
        case measure => simp [intOf]; omega
    · obtain rfl : j = zs.length := by omega
      go_wp2
      go_ret
      exact ⟨rfl, Below.refl _ _⟩

theorem slice_costs (n b : Nat) (hn : n ≤ 16) (w : World) : (Instr.sliceAt 67 (.pointer (some ⟨b, 0, none⟩)) none (some (.int .i64 n)) none).run Try.prog w = .ok (.slice (some ⟨b, 0, none⟩) n 16) w := by
  have ha : Try.prog.arrayLen 67 = 16 := by kernel_rfl
  have hs : (sizeOf (Try.prog.elem 67)).run Try.prog w = .ok 1 w := by kernel_rfl
  rw [run_sliceAt_array_h (P := Try.prog) w 67 ⟨b, 0, none⟩ (by kernel_rfl) .i64 (n : Int) (by omega) (by rw [ha]; omega), hs]
  simp [ha, slicedAt, Result.andThen, Addr.add]

set_option maxRecDepth 100000 in
set_option maxHeartbeats 2000000 in
theorem WorstMiss_any (T : Tab) (a : Option Addr) (c : Nat) (w : World) (hx : T.zs.length ≤ 9223372036854775807) (h1 : IntsAt w a T.zs) :
    Calls Try.prog 20 #[tabV T a c] w fun e w' => e = .returned (.int .i64 (worstI T)) ∧ Below w.heap.size w w' := by
  have S0 := tabBox c 27 h1
  cases hv : validB T
  · go_enter Try.func20, Try.ntmps20
    go_wp2_with fail
    refine (TableValid_any T a c _ hx (by exact S0.reads 1 rfl)).mono ?_
    rw [hv]
    rintro e w1 ⟨rfl, hb⟩
    have S1 := S0.below hb
    go_wp2
    go_ret
    exact ⟨by simp [worstI, hv], S1.old⟩
  · obtain ⟨⟨l1, l2⟩, _⟩ := valid_facts hv
    obtain ⟨zs, hz⟩ : ∃ zs, zs = (List.range T.zs.length).map fun j => costT T T.zs.length j := ⟨_, rfl⟩
    have hzl : zs.length = T.zs.length := by rw [hz]; simp
    have hzn : ∀ j, j < T.zs.length → nth zs j = costT T T.zs.length j := fun j hj => by rw [hz]; simp [nth, hj]
    have HZN := Lib.hid hzn
    have R : Hid (worstI T = (firstMax zs T.zs.length : Nat)) := Lib.hid (by
      rw [firstMax_worst T (fun j hj => by rw [hzn j hj]; unfold costT; rw [if_pos hj]) _ (Nat.le_refl _)]
      simp [worstI, hv])
    have HV := Lib.hid hv
    have HM := Lib.hid fun W h => missesOf_any T a c W hv h
    have h2 := costK_size (costT T T.zs.length)
    have h3 := costK_one (costT T T.zs.length)
    have HA : Hid (∀ j, j < 16 → (costK (costT T T.zs.length))[j]? = some (.int .i64 (costT T T.zs.length j))) := Lib.hid fun j hj => costK_at _ hj
    obtain ⟨C, hC⟩ : ∃ C, C = costK (costT T T.zs.length) := ⟨_, rfl⟩
    rw [← hC] at HM h2 h3 HA
    clear hC hv hz hzn
    go_enter Try.func20, Try.ntmps20
    go_wp2_with fail
    refine (TableValid_any T a c _ hx (by exact S0.reads 1 rfl)).mono ?_
    rw [HV.out]
    rintro e w1 ⟨rfl, hb⟩
    have S1 := S0.below hb
    clear S0 hb
    obtain ⟨x0, x1, x2, x3, x4, x5, xz⟩ := facts3 (S1.cells 0 rfl)
    go_wp2_with fail
    refine (HM.out _ (by exact S1.reads 1 rfl)).mono ?_
    rintro e w2 ⟨rfl, hb⟩
    have S2 := S1.below hb
    clear S1 hb x0 x1 x2 x3 x4 x5 xz
    have hsz : w.heap.size < w2.heap.size := S2.sz 0 rfl
    have S3 := (S2.alloc cost0 67).setRowAt (c' := C) (by simp [Far, It.box, It.read]; omega) S2.size
    have hS : (w2.alloc (.cells cost0 67)).heap[w2.heap.size]? = some (.cells cost0 67 (0, 0)) := heap_alloc_last _ _
    obtain ⟨x0, x1, x2, x3, x4, x5, xz⟩ := facts3 (S3.cells 1 rfl)
    have hI : IntsAt ((w2.alloc (.cells cost0 67)).setRow w2.heap.size C) (some ⟨w2.heap.size, 0, none⟩) zs := fun _ => ⟨w2.heap.size, 0, rfl, fun j hj => by
      show _ = some (Value.int .i64 (nth zs j))
      rw [HZN.out j (by omega), Nat.zero_add]
      unfold World.cell?
      simp only [S3.cells 0 rfl]
      exact HA.out j (by omega)⟩
    have FG := Lib.hid (firstGreatest_any zs (some ⟨w2.heap.size, 0, none⟩) 16 _ (by omega) hI)
    rw [hzl] at FG
    clear hI
    have hsl := slice_costs T.zs.length w2.heap.size l2
    go_wp2_with (first
        | refine wide_alloc rfl 67 rfl cost0 zeroCost ?_
        | refine wide_store rfl (.tmp 3) (.tmp 8) 67 rfl w2.heap.size 67 cost0 C rfl rfl hS (by rw [sizeCost, h2]) (by rw [cost0_size, h2]) h3 ?_)
    refine FG.out.mono ?_
    rintro e w4 ⟨rfl, hb⟩
    have S4 := S3.below hb
    go_wp2
    go_ret
    exact ⟨by rw [R.out]; rfl, S4.old⟩

end Go.Proofs.Ytpncpeokdcolpaa

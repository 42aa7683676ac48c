/-
  Ways around: the program's ReachOf, IsWhole.
-/
import Derived.Test.YtddomanabcmnpaaBitsEq
namespace Go.Proofs.Ytddomanabcmnpaa
open Go.RowKit

theorem reachP_hit {n k s : Nat} (h : askW n k s = true) (y : Nat) : reachP n k s y = hitW n k s y := by simp [reachP, h]

set_option maxRecDepth 100000 in
set_option maxHeartbeats 2000000 in
theorem ReachOf_any (n k s : Int) (w : World) :
    Calls Try.prog 18 #[.int .i64 n, .int .i64 k, .int .i64 s] w fun e w' => e = .returned (.int .i64 (reachI n k s)) ∧ Below w.heap.size w w' := by
  have AR := Lib.hid (reachBy_any n k s w)
  obtain ⟨C, hC⟩ : ∃ C, C = hitK (reachP n k s) := ⟨_, rfl⟩
  rw [← hC] at AR
  have h1 : C.all (·.oneCell') = true := by rw [hC]; exact hitK_one _
  have h2 : C.size = 16 := by rw [hC]; exact hitK_size _
  cases ha : askW n k s
  · have R := Lib.hid (reachI_no ha)
    clear hC
    go_enter Try.func18, Try.ntmps18
    go_wp2_with fail
    refine AR.out.mono ?_
    rw [ha]
    rintro e w1 ⟨rfl, hb⟩
    have S1 := (((St.start w).below hb).alloc hit0 55)
    have SP := (S1.turn (l' := [It.box w1.heap.size hit0 55]) fun i hi => hi).setRowAt (c' := C) trivial hb.size
    have hS := S1.cells 0 rfl
    go_wp2_with (first
        | refine wide_alloc rfl 55 rfl hit0 zeroR ?_
        | refine wide_store rfl (.tmp 7) (.tmp 17) 55 rfl w1.heap.size 55 hit0 C rfl rfl hS (by rw [sizeR, h2]) (by rw [hit0_size, h2]) h1 ?_)
    go_ret
    exact ⟨by rw [R.out]; rfl, SP.old⟩
  · obtain ⟨N, K, S, rfl, rfl, rfl, n1, n2, hk, hs⟩ := askW_nat ha
    have R := Lib.hid (reachI_yes ha)
    have HC := Lib.hid fun (j : Nat) (hj : j < 16) => show C[j]? = some (.bool (hitW N K S j)) by rw [hC, hitK_at _ hj, reachP_hit ha]
    clear hC
    go_enter Try.func18, Try.ntmps18
    go_wp2_with fail
    refine AR.out.mono ?_
    rw [ha]
    rintro e w1 ⟨rfl, hb⟩
    have S1 := (((St.start w).below hb).alloc hit0 55)
    have SP := (S1.turn (l' := [It.box w1.heap.size hit0 55]) fun i hi => hi).setRowAt (c' := C) trivial hb.size
    have hS := S1.cells 0 rfl
    have hL := SP.cells 0 rfl
    go_wp2_with (first
        | refine wide_alloc rfl 55 rfl hit0 zeroR ?_
        | refine wide_store rfl (.tmp 7) (.tmp 17) 55 rfl w1.heap.size 55 hit0 C rfl rfl hS (by rw [sizeR, h2]) (by rw [hit0_size, h2]) h1 ?_
        | refine wide_load rfl (.tmp 7) 55 rfl w1.heap.size 55 C (0, 0) _ rfl hL Try.underlying55 rfl (by rw [sizeR, h2]) ?_)
    clear hL hS S1
    go_loop [9, 11, 22] (fun c _ i => ∃ j : Nat, j ≤ 16 ∧ i = .int .i64 j ∧ c = .int .i64 (reachTo N K S j : Nat)) (fun _ _ i => 16 - (intOf i).toNat)
    case atStart => exact ⟨0, by omega, rfl, rfl⟩
    case round =>
      obtain ⟨j, hj, rfl, rfl⟩ := hrel
      by_cases hlt : j < 16
      · have j0 : (0 : Int) ≤ (j : Int) := by omega
        have j1 : (j : Int) < 16 := by omega
        have hc := HC.out j hlt
        have hr := reachTo_le N K S j
        cases hh : hitW N K S j
        · have RN := Lib.hid (reachTo_no hh)
          rw [hh] at hc
          have IX := fun w => index_bits hlt hc w
          go_wp2
          go_round
          case rel => exact ⟨j + 1, by omega, by go_num, by rw [RN.out]⟩
          case measure => simp [intOf]; omega
        · have RN := Lib.hid (reachTo_yes hh)
          rw [hh] at hc
          have IX := fun w => index_bits hlt hc w
          go_wp2
          go_round
          case rel => exact ⟨j + 1, by omega, by go_num, by rw [RN.out]; go_num⟩
          case measure => simp [intOf]; omega
      · obtain rfl : j = 16 := by omega
        go_wp2
        go_ret
        exact ⟨by rw [R.out]; rfl, SP.old⟩

theorem range_below {A B : World} {b : Nat} {L : List Value} (h : Below A.drew.heap.size A.drew B) (hz : b < A.heap.size) (hr : A.rangeAt b 0 L) : B.rangeAt b 0 L := fun j v hj =>
  (World.cell?_of_block (a := ⟨b, 0 + j, none⟩) (h.block b hz)).trans (hr j v hj)

theorem whole_bits (n k s : Int) (ha : askW n k s = true) : ((List.range 16).all fun j => reachP n k s j == decide (j < n.toNat)) = wholeB n k s := by
  obtain ⟨N, K, S, rfl, rfl, rfl, n1, n2, hk, hs⟩ := askW_nat ha
  rw [wholeB_yes ha, Bool.eq_iff_iff, List.all_eq_true, decide_eq_true_eq, reach_all n1 n2]
  constructor
  · intro h j hj
    have := h j (List.mem_range.2 hj)
    rw [reachP_hit ha] at this
    simpa using this
  · intro h j hj
    rw [reachP_hit ha, h j (List.mem_range.1 hj)]
    simp

set_option maxRecDepth 100000 in
set_option maxHeartbeats 2000000 in
theorem IsWhole_any (n k s : Int) (w : World) :
    Calls Try.prog 21 #[.int .i64 n, .int .i64 k, .int .i64 s] w fun e w' => e = .returned (.bool (wholeB n k s)) ∧ Below w.heap.size w w' := by
  have AR := Lib.hid (reachBy_any n k s w)
  obtain ⟨C, hC⟩ : ∃ C, C = hitK (reachP n k s) := ⟨_, rfl⟩
  rw [← hC] at AR
  have h1 : C.all (·.oneCell') = true := by rw [hC]; exact hitK_one _
  have h2 : C.size = 16 := by rw [hC]; exact hitK_size _
  have HC := Lib.hid fun (j : Nat) (hj : j < 16) => show C[j]? = some (.bool (reachP n k s j)) by rw [hC, hitK_at _ hj]
  clear hC
  cases ha : askW n k s
  · have R := Lib.hid (wholeB_no ha)
    go_enter Try.func21, Try.ntmps21
    go_wp2_with fail
    refine AR.out.mono ?_
    rw [ha]
    rintro e w1 ⟨rfl, hb⟩
    have S1 := (((St.start w).below hb).alloc hit0 55)
    have SP := (S1.turn (l' := [It.box w1.heap.size hit0 55]) fun i hi => hi).setRowAt (c' := C) trivial hb.size
    have hS := S1.cells 0 rfl
    go_wp2_with (first
        | refine wide_alloc rfl 55 rfl hit0 zeroR ?_
        | refine wide_store rfl (.tmp 7) (.tmp 14) 55 rfl w1.heap.size 55 hit0 C rfl rfl hS (by rw [sizeR, h2]) (by rw [hit0_size, h2]) h1 ?_)
    go_region
    go_wp2
    go_ret
    exact ⟨by rw [R.out]; rfl, SP.drew.old⟩
  · have W := Lib.hid (whole_bits n k s ha)
    have ha2 := ha
    obtain ⟨N, K, S, rfl, rfl, rfl, n1, n2, hk, hs⟩ := askW_nat ha2
    clear ha2
    have AA := Lib.hid fun w => reachOfAll_any N w n2
    have HD := Lib.hid fun (j : Nat) (hj : j < 16) => hitK_at (fun j => decide (j < N)) hj
    obtain ⟨D, hD⟩ : ∃ D, D = hitK (fun j => decide (j < N)) := ⟨_, rfl⟩
    rw [← hD] at AA HD
    clear hD
    have EQ := fun w => eql_bits HC.out HD.out w
    rw [show (List.range 16).all (fun j => reachP (N : Int) (K : Int) (S : Int) j == decide (j < N)) = wholeB N K S from W.out] at EQ
    clear W
    go_enter Try.func21, Try.ntmps21
    go_wp2_with fail
    refine AR.out.mono ?_
    rw [ha]
    rintro e w1 ⟨rfl, hb⟩
    have S1 := (((St.start w).below hb).alloc hit0 55)
    have SP := (S1.turn (l' := [It.box w1.heap.size hit0 55]) fun i hi => hi).setRowAt (c' := C) trivial hb.size
    have hS := S1.cells 0 rfl
    have hL := SP.cells 0 rfl
    go_wp2_with (first
        | refine wide_alloc rfl 55 rfl hit0 zeroR ?_
        | refine wide_store rfl (.tmp 7) (.tmp 14) 55 rfl w1.heap.size 55 hit0 C rfl rfl hS (by rw [sizeR, h2]) (by rw [hit0_size, h2]) h1 ?_)
    have hr : ((w1.alloc (.cells hit0 55)).setRow w1.heap.size C).rangeAt w1.heap.size 0 C.toList := fun j v hj => by
      rw [Nat.zero_add]
      unfold World.cell?
      rw [hL]
      simpa using hj
    have zz := (Array.getElem?_eq_some_iff.1 hL).1
    obtain ⟨L, rfl⟩ : ∃ L : List Value, C = L.toArray := ⟨C.toList, by simp⟩
    have I1 : (Try.prog.info? 55).map (·.size) = some L.length := by rw [sizeR]; simpa using h2.symm
    have I2 := Try.underlying55
    simp only at hr
    generalize ((w1.alloc (.cells hit0 55)).setRow w1.heap.size L.toArray) = W1 at SP hL zz hr ⊢
    clear hS S1 h1 h2
    go_region_held3 (fun w' => w'.rangeAt w1.heap.size 0 L)
      (first | exact hr | exact range_below hb5 zz hr)
      (first | (go_at_call 46; refine (AA.out _).mono ?_; rintro e w5 ⟨rfl, hb5⟩))
    go_wp2
    go_ret
    exact ⟨rfl, (SP.drew.below hb5).old⟩

set_option maxHeartbeats 2000000 in
set_option maxRecDepth 100000 in
theorem WholeSteps_any (n : Int) (w : World) :
    Calls Try.prog 29 #[.int .i64 n] w fun e w' => ∃ (a' : Option Addr) (c' : Nat), e = .returned (.tuple #[.slice a' (stepsI n).length c', .bool (inB n 1 16)]) ∧ OwnInts w' w.heap.size a' (stepsI n) ∧ Below w.heap.size w w' := by
  cases h1 : inB n 1 16
  · have R := Lib.hid (stepsI_no h1)
    go_enter Try.func29, Try.ntmps29
    go_wp2_with (first | (go_at_call 53; refine (isSize_any _ _).mono ?_; rintro e w' ⟨rfl, rfl⟩; rw [h1]))
    go_ret2
    exact ⟨none, 0, by rw [R.out]; rfl, by rw [R.out]; exact OwnInts.nil _ _, Below.refl _ _⟩
  · have h' := inB_iff.1 h1
    obtain ⟨N, rfl⟩ := Int.eq_ofNat_of_zero_le (show 0 ≤ n by omega)
    have R := Lib.hid (stepsI_yes h1)
    have H1 := Lib.hid h1
    have n1 : 1 ≤ N := by omega
    have n2 : N ≤ 16 := by omega
    clear h'
    obtain ⟨i0, hi, hz0, hz1, hz2⟩ := info_parts Try.info3
    have HI := Lib.hid hi; have HZ0 := Lib.hid hz0; have HZ1 := Lib.hid hz1; have HZ2 := Lib.hid hz2
    clear hi hz0 hz1 hz2
    have S0 := (St.start w).add (It.row w.heap.size w.heap.size (.slice none 0 0) []) (by simp [It.row]) ⟨World.ownsRow_nil _ _ _ _, fun k e => by cases e⟩
    go_enter Try.func29, Try.ntmps29
    go_wp2_with (first | (go_at_call 53; refine (isSize_any _ _).mono ?_; rintro e w' ⟨rfl, rfl⟩; rw [h1]))
    clear h1
    go_loopw [4, 5, 10] (fun x _ z wr => ∃ (j : Nat) (v : Value) (xs : List Int) (hi' : Nat), j ≤ N ∧ z = .int .i64 j ∧ x = v ∧ xs = stepsTo N j ∧ w.heap.size ≤ wr.heap.size ∧
      St w wr [It.row w.heap.size hi' v xs]) (fun _ _ z _ => N - (intOf z).toNat)
    case atStart => exact ⟨0, _, [], _, Nat.zero_le _, rfl, rfl, rfl, Nat.le_refl _, S0⟩
    case round =>
      obtain ⟨j, v, xs, hi', hj, rfl, rfl, hxs, hz, Sr⟩ := hrel
      have X := Lib.hid hxs
      have hxl : xs.length ≤ 16 := by rw [hxs]; exact Nat.le_trans (stepsTo_len _ _) (by omega)
      clear hxs S0
      by_cases hlt : j < N
      · have W := Lib.hid (wholeB_yes (askW_of n1 n2 (show 0 ≤ 2 by omega) (show j ≤ 16 by omega)))
        have A0 := Lib.hid (IsWhole_any N 0 j wr)
        simp only [Int.natCast_zero] at W
        cases hd : decide (reachN N 0 j = N)
        · have Y := Lib.hid (stepsTo_no hd)
          go_wp2_with fail
          refine A0.out.mono ?_
          rw [W.out, hd]
          rintro e w1 ⟨rfl, hb⟩
          have S1 := Sr.below hb
          have z1 := hb.size
          clear Sr
          go_wp2
          go_roundw
          case rel => exact ⟨j + 1, _, xs, hi', by omega, by go_num, rfl, by rw [X.out, Y.out], by omega, S1⟩
          case measure => simp [intOf]; omega
        · have Y := Lib.hid (stepsTo_yes hd)
          go_wp2_with fail
          refine A0.out.mono ?_
          rw [W.out, hd]
          rintro e w1 ⟨rfl, hb⟩
          have S1 := Sr.below hb
          have z1 := hb.size
          clear Sr hb
          have hown := S1.rows 0 rfl
          have F5 := fun v => (show Far (It.row w.heap.size hi' v xs) [] from trivial)
          go_wp2_with (first | (at_builtin; refine wpList_append_own _ rfl _ _ 33 rfl w.heap.size 3 i0 (.int .i64 0) 1 8 Try.underlying33 HI.out HZ0.out HZ1.out HZ2.out rfl (by decide) _ _ _ rfl (hown.alloc _) ⟨w1.heap.size, 0, none⟩ 1 1 [.int .i64 j] rfl rfl (cell_one_new _ _ _) (by simp [Value.oneCell']) (by unfold maxLen; omega) (by omega) (by simp; omega) ?_))
          intro v' w5 hown5 hgrow5 _
          obtain ⟨g', cap', rfl⟩ := ownsRow_more hown5
          have S5 := S1.append (F5 _) (Nat.le_refl _) _ hown5 hgrow5
          have z5 : w.heap.size ≤ w5.heap.size := by have := hgrow5.size; simp at this; omega
          clear hown5 hgrow5 hown S1
          go_wp2
          go_roundw
          case rel => exact ⟨j + 1, _, xs ++ [(j : Int)], w5.heap.size, by omega, by go_num, rfl, by rw [X.out, Y.out], z5, S5⟩
          case measure => simp [intOf]; omega
      · obtain ⟨a', c', rfl⟩ := ownsRow_slice (Sr.rows 0 rfl)
        have O2 := Lib.hid (ownsRow_ints (Sr.rows 0 rfl))
        go_wp2
        go_ret2
        have e : j = N := by omega
        have hx := X.out
        rw [e] at hx
        subst hx
        exact ⟨a', c', by rw [R.out]; rfl, by rw [R.out]; exact O2.out, Sr.old⟩

end Go.Proofs.Ytddomanabcmnpaa

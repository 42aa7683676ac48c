/-
  NeededTombs: the model's, and the program's.
-/
import Derived.Test.YtipabndhknhkeaaGreatDoorSlotsIt
import Derived.Test.YtipabndhknhkeaaGreatDoorCollect
import Derived.Test.YtipabndhknhkeaaGreatDoorNeedsS
import Derived.Test.YtipabndhknhkeaaGreatDoorNeed
import Derived.Test.YtipabndhknhkeaaGreatDoorLostI
namespace Go.Proofs.YtipabndhknhkeaaGreatDoor
open Go.RowKit

/-- A tomb that is needed. -/
def needB (T : Tab) (i : Nat) : Bool := nth T.zs i == -2 && needOf T i
def needLTo (T : Tab) (j : Nat) : List Int := ((List.range j).filter (needB T)).map fun i : Nat => (i : Int)
def needsOf (T : Tab) : List Int := if soundB T then needLTo T T.zs.length else []
theorem needLTo_yes {T : Tab} {j : Nat} (h : needB T j = true) : needLTo T (j + 1) = needLTo T j ++ [(j : Int)] := by
  rw [needLTo, needLTo, List.range_succ, List.filter_append, List.map_append]
  simp [h]
theorem needLTo_no {T : Tab} {j : Nat} (h : needB T j = false) : needLTo T (j + 1) = needLTo T j := by
  rw [needLTo, needLTo, List.range_succ, List.filter_append, List.map_append]
  simp [h]
theorem needLTo_len (T : Tab) (j : Nat) : (needLTo T j).length ≤ j := by
  rw [needLTo, List.length_map]
  exact Nat.le_trans (List.length_filter_le _ _) (by simp)

theorem needsOf_len (T : Tab) : (needsOf T).length ≤ 100 := by
  unfold needsOf
  split
  · rename_i h
    obtain ⟨⟨_, l2⟩, _⟩ := valid_facts (sound_all.1 h).1
    have := needLTo_len T T.zs.length
    omega
  · simp

theorem needStep_small {T : Tab} (l1 : 1 ≤ T.zs.length) {h m j : Nat} (hm : m < 2 ^ T.zs.length) : needStep T h m j < 2 ^ T.zs.length := by
  unfold needStep
  split
  · exact Nat.or_lt_two_pow hm (Nat.pow_lt_pow_right (by decide) (stepS_lt l1 h j))
  · exact hm
theorem needIn_small {T : Tab} (l1 : 1 ≤ T.zs.length) {h m : Nat} (hm : m < 2 ^ T.zs.length) (pre : List Nat) : needIn T h m pre < 2 ^ T.zs.length := by
  induction pre generalizing m with
  | nil => exact hm
  | cons x pre ih => exact ih (needStep_small l1 hm)
theorem needTo_small {T : Tab} (l1 : 1 ≤ T.zs.length) (k : Nat) : needTo T k < 2 ^ T.zs.length := by
  induction k with
  | zero => exact Nat.two_pow_pos _
  | succ k ih =>
    unfold needTo
    split
    · exact needIn_small l1 ih _
    · exact ih
theorem bits_need {T : Tab} (hv : validB T = true) : bitsI (needTo T T.zs.length) = needLTo T T.zs.length := by
  obtain ⟨⟨l1, l2⟩, _⟩ := valid_facts hv
  unfold bitsI bitsL needLTo
  congr 1
  have e : List.range 16 = List.range T.zs.length ++ (List.range (16 - T.zs.length)).map (T.zs.length + ·) := by
    rw [← List.range_add]; congr 1; omega
  rw [e, List.filter_append]
  have e2 : ((List.range (16 - T.zs.length)).map (T.zs.length + ·)).filter (fun i => (needTo T T.zs.length).testBit i) = [] := by
    rw [List.filter_eq_nil_iff]
    intro i hi
    obtain ⟨j, _, rfl⟩ := List.mem_map.1 hi
    rw [Nat.testBit_lt_two_pow (Nat.lt_of_lt_of_le (needTo_small l1 _) (Nat.pow_le_pow_right (by decide) (Nat.le_add_right _ _)))]
    simp
  rw [e2, List.append_nil]
  refine List.filter_congr fun i hi => ?_
  rw [needTo_bit hv (List.mem_range.1 hi) _ (Nat.le_refl _)]
  rfl

set_option maxHeartbeats 4000000 in
set_option maxRecDepth 100000 in
theorem NeededTombs_any (T : Tab) (a : Option Addr) (c : Nat) (w : World) (hx : T.zs.length ≤ 9223372036854775807) (h1 : IntsAt w a T.zs) (hD : DeB w) :
    Calls Tryz.prog 29 #[tabV T a c] w (IntsRes (needsOf T) (soundB T) w) := by
  have S0 := ((St.start w).read h1).alloc #[.int .i64 T.t, .int .i64 T.p, .slice a T.zs.length c] 28
  have D0 := Lib.hid (hD.below S0.old hD.1)
  obtain ⟨x0, x1, x2, x3, x4, x5, xz⟩ := facts3 (S0.cells 0 rfl)
  cases hs : soundB T
  · have R : Hid (needsOf T = []) := Lib.hid (by simp [needsOf, hs])
    go_enter Tryz.func29, Tryz.ntmps29
    go_wp2_with fail
    refine (IsSound_any T a c _ hx (by exact S0.reads 1 rfl)).mono ?_
    rw [hs]
    rintro e w1 ⟨rfl, hb⟩
    have S1 := S0.below hb
    go_wp2
    go_ret2
    exact ⟨none, 0, by rw [R.out]; rfl, by rw [R.out]; exact OwnInts.nil _ _, S1.old⟩
  · have hv := (sound_all.1 hs).1
    obtain ⟨⟨l1, l2⟩, _⟩ := valid_facts hv
    have R : Hid (needsOf T = bitsI (needTo T T.zs.length)) := Lib.hid (by rw [bits_need hv, needsOf, if_pos hs])
    have HV := Lib.hid hv
    have hnl := needTo_lt l1 l2 T.zs.length
    clear hv
    go_enter Tryz.func29, Tryz.ntmps29
    go_wp2_with fail
    refine (IsSound_any T a c _ hx (by exact S0.reads 1 rfl)).mono ?_
    rw [hs]
    rintro e w1 ⟨rfl, hb⟩
    have S1 := S0.below hb
    clear S0 hb x0 x1 x2 x3 x4 x5 xz hs
    obtain ⟨x0, x1, x2, x3, x4, x5, xz⟩ := facts3 (S1.cells 0 rfl)
    go_wp2_with fail
    clear x0 x1 x2 x3 x4 x5 xz
    refine (ringOf_any T a c _ (by exact S1.reads 1 rfl) HV.out).mono ?_
    rintro e w2 ⟨g, rfl, hg0, hg, hr, hb⟩
    have S2 := S1.below hb
    clear S1 hb
    go_wp2_with fail
    refine (needed_any T g _ HV.out hr hg).mono ?_
    rintro e w3 ⟨rfl, hb⟩
    have S3 := S2.below hb
    clear S2 hb
    generalize needTo T T.zs.length = m at R hnl
    go_wp2_with fail
    refine (slots_any m _).mono ?_
    rintro e w4 ⟨rfl, rfl⟩
    have hz3 := S3.size
    have hz0 := hD.1
    have hB := Boxed.new w3 76 (.int .u16 m)
    have S4 := S3.alloc #[.int .u16 m] 76
    have D4 := hD.below S4.old hz0
    have HS := Lib.hid (slots_stops 8 (by omega) w3.heap.size m hnl (w3.alloc (.cells #[.int .u16 m] 76)) (by simp) D4.1 hB.cell D4)
    have HG := Lib.hid D4.1
    clear S3 D4 hB
    go_wp2_with fail
    refine (Collect_any 92 _ 0 16 (bitsI m) _ HG.out (by omega) (bitsI_len m) (enters_of Tryz.func92 (by kernel_rfl) rfl) HS.out).mono ?_
    rintro e w5 ⟨a5, c5, rfl, ho, hb⟩
    have S5 := S4.below hb
    go_wp2
    go_ret2
    exact ⟨a5, c5, by rw [R.out]; rfl, by rw [R.out]; exact ho.mono (by simp; omega), S5.old⟩

set_option maxHeartbeats 4000000 in
set_option maxRecDepth 100000 in
theorem specNeededTombs_any (T : Tab) (a : Option Addr) (c : Nat) (w : World) (hx : T.zs.length ≤ 9223372036854775807) (h1 : IntsAt w a T.zs) :
    Calls Tryz.prog 30 #[tabV T a c] w (IntsRes (needsOf T) (soundB T) w) := by
  obtain ⟨i0, hi, hz0, hz1, hz2⟩ := info_parts Tryz.info3
  have HI := Lib.hid hi; have HZ0 := Lib.hid hz0; have HZ1 := Lib.hid hz1; have HZ2 := Lib.hid hz2
  clear hi hz0 hz1 hz2
  have S0 := ((St.start w).read h1).alloc #[.int .i64 T.t, .int .i64 T.p, .slice a T.zs.length c] 28
  have hrs := row_start (w.alloc (.cells #[.int .i64 T.t, .int .i64 T.p, .slice a T.zs.length c] 28))
  have S1 := (S0.below ((Below.refl _ _).alloc (Nat.le_refl _) (.cells #[] 3))).add (It.row (w.heap.size + 1) (w.heap.size + 1 + 1) (.slice (some ⟨w.heap.size + 1, 0, none⟩) 0 0) []) (by simp [It.row]) ⟨by simpa using hrs, fun k e => by cases e; simp⟩
  clear hrs S0
  cases hs : soundB T
  · have R : Hid (needsOf T = []) := Lib.hid (by simp [needsOf, hs])
    obtain ⟨x0, x1, x2, x3, x4, x5, xz⟩ := facts3 (S1.cells 1 rfl)
    go_enter Tryz.func30, Tryz.ntmps30
    go_wp2_with fail
    refine (specIsSound_any T a c _ hx (by exact S1.reads 2 rfl)).mono ?_
    rw [hs]
    rintro e w1 ⟨rfl, hb⟩
    have S2 := S1.below hb
    go_wp2
    go_ret2
    exact ⟨_, 0, by rw [R.out]; rfl, by rw [R.out]; exact (rowInts (S2.rows 0 rfl)).mono (Nat.le_succ _), S2.old⟩
  · have HV := Lib.hid (sound_all.1 hs).1
    obtain ⟨⟨l1, l2⟩, _⟩ := valid_facts HV.out
    have R : Hid (needsOf T = needLTo T T.zs.length) := Lib.hid (by rw [needsOf, if_pos hs])
    obtain ⟨x0, x1, x2, x3, x4, x5, xz⟩ := facts3 (S1.cells 1 rfl)
    go_enter Tryz.func30, Tryz.ntmps30
    go_wp2_with fail
    refine (specIsSound_any T a c _ hx (by exact S1.reads 2 rfl)).mono ?_
    rw [hs]
    rintro e w1 ⟨rfl, hb⟩
    have S2 := S1.below hb
    have z2 : w.heap.size + 1 < w1.heap.size := S2.sz 0 rfl
    clear S1 hb x0 x1 x2 x3 x4 x5 xz hs
    obtain ⟨x0, x1, x2, x3, x4, x5, xz⟩ := facts3 (S2.cells 1 rfl)
    obtain ⟨b, o, x, rfl, qx, X⟩ := (S2.reads 2 rfl).at (show 0 < T.zs.length by omega)
    clear qx X
    go_wp2_with fail
    clear x0 x1 x2 x3 x4 x5 xz
    go_loopw [4, 5, 6, 15] (fun x _ _ i wr => ∃ (j : Nat) (v : Value) (hi' : Nat), j ≤ T.zs.length ∧ i = .int .i64 j ∧ x = v ∧
        St w wr [It.row (w.heap.size + 1) hi' v (needLTo T j), It.box w.heap.size #[.int .i64 T.t, .int .i64 T.p, .slice (some ⟨b, o, none⟩) T.zs.length c] 28, It.read w.heap.size (some ⟨b, o, none⟩) T.zs]) (fun _ _ _ i _ => T.zs.length - (intOf i).toNat)
    case atStart => exact ⟨0, _, _, Nat.zero_le _, rfl, rfl, S2⟩
    case round =>
      obtain ⟨j, v, hi', hj, rfl, rfl, Sr⟩ := hrel
      clear S2
      have hll := needLTo_len T j
      by_cases hlt : j < T.zs.length
      · obtain ⟨x0, x1, x2, x3, x4, x5, xz⟩ := facts3 (Sr.cells 1 rfl)
        obtain ⟨b2, o2, y, ea, q, Y⟩ := (Sr.reads 2 rfl).at hlt
        cases ea
        have h0 : (0 : Int) ≤ (j : Int) := by omega
        have h1 : (j : Int) < (T.zs.length : Int) := by omega
        have HN := Lib.hid (l4Needs_any T (some ⟨b, o, none⟩) c j)
        have HB : Hid (needB T j = (y == -2 && needOf T j)) := Lib.hid (by rw [needB, Y.out])
        generalize needOf T j = nd at HN HB
        cases hy : (y == -2)
        · have HS : Hid (needLTo T (j + 1) = needLTo T j) := Lib.hid (needLTo_no (by rw [HB.out, hy]; rfl))
          go_wp2
          go_roundw
          case rel => exact ⟨j + 1, _, hi', by omega, by go_num, rfl, by rw [HS.out]; exact Sr⟩
          case measure => simp [intOf]; omega
        · go_wp2_with fail
          clear x0 x1 x2 x3 x4 x5 xz
          refine (HN.out _ HV.out hlt (by exact Sr.reads 2 rfl)).mono ?_
          rintro e w5 ⟨rfl, hb⟩
          have S5 := Sr.below hb
          clear Sr hb
          cases nd
          · have HS : Hid (needLTo T (j + 1) = needLTo T j) := Lib.hid (needLTo_no (by rw [HB.out]; simp))
            go_wp2
            go_roundw
            case rel => exact ⟨j + 1, _, hi', by omega, by go_num, rfl, by rw [HS.out]; exact S5⟩
            case measure => simp [intOf]; omega
          · have HS : Hid (needLTo T (j + 1) = needLTo T j ++ [(j : Int)]) := Lib.hid (needLTo_yes (by rw [HB.out, hy]; rfl))
            have hown := S5.rows 0 rfl
            have z5 := S5.size
            have FR := fun v => (show Far (It.row (w.heap.size + 1) hi' v (needLTo T j)) [It.box w.heap.size #[.int .i64 T.t, .int .i64 T.p, .slice (some ⟨b, o, none⟩) T.zs.length c] 28, It.read w.heap.size (some ⟨b, o, none⟩) T.zs] from ⟨.inl (Nat.le_refl _), .inl (Nat.le_succ _), trivial⟩)
            go_wp2_with (at_builtin; refine wpList_append_own _ rfl _ _ 22 rfl (w.heap.size + 1) 3 i0 (.int .i64 0) 1 8 Tryz.underlying22 HI.out HZ0.out HZ1.out HZ2.out rfl (by decide) _ _ _ rfl (hown.alloc _) ⟨w5.heap.size, 0, none⟩ 1 1 [.int .i64 (j : Int)] rfl rfl (cell_one_new _ _ _) (by simp [Value.oneCell']) (by unfold maxLen; omega) (by omega) (by simp; omega) ?_)
            intro v' w6 hown6 hgrow6 _
            obtain ⟨g', cap', rfl⟩ := ownsRow_more hown6
            have S6 := S5.append (x := (j : Int)) (FR _) (Nat.le_succ _) _ hown6 hgrow6
            rw [← HS.out] at S6
            clear hown6 hgrow6 hown FR S5
            go_wp2
            go_roundw
            case rel => exact ⟨j + 1, _, w6.heap.size, by omega, by go_num, rfl, S6⟩
            case measure => simp [intOf]; omega
      · obtain rfl : j = T.zs.length := by omega
        obtain ⟨a5, c5, rfl⟩ := ownsRow_slice (Sr.rows 0 rfl)
        have O5 := Lib.hid (rowInts (Sr.rows 0 rfl))
        rw [← R.out] at O5 Sr
        rw [← R.out]
        go_wp2
        go_ret2
        exact ⟨a5, c5, rfl, O5.out.mono (Nat.le_succ _), Sr.old⟩

end Go.Proofs.YtipabndhknhkeaaGreatDoor

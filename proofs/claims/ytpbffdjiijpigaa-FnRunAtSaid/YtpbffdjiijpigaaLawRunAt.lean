/-
  The law FnRunAt: the walk.
-/
import Derived.Test.YtpbffdjiijpigaaCame
import Derived.Test.YtpbffdjiijpigaaDraw2R
import Derived.Test.YtpbffdjiijpigaaRunsOfI
import Derived.Test.YtpbffdjiijpigaaRunLawM
namespace Go.Proofs.Ytpbffdjiijpigaa
open Go.RowKit

theorem runat_cases (T : Tab) (slot : Int) : (runAt T slot = none ∧ (validB T = false ∨ (validB T = true ∧ (slot < 0 ∨ (T.zs.length : Int) ≤ slot ∨ ∃ s : Nat, slot = s ∧ s < T.zs.length ∧ nth T.zs s = -1)))) ∨
    ∃ s p q : Nat, slot = s ∧ validB T = true ∧ s < T.zs.length ∧ nth T.zs s ≠ -1 ∧ RunSays T s p q := by
  cases hv : validB T
  · exact .inl ⟨run_out (.inl hv), .inl rfl⟩
  · by_cases h0 : slot < 0
    · exact .inl ⟨run_out (.inr (inB_false.2 (by omega))), .inr ⟨rfl, .inl h0⟩⟩
    · by_cases h1 : (T.zs.length : Int) ≤ slot
      · exact .inl ⟨run_out (.inr (inB_false.2 (by omega))), .inr ⟨rfl, .inr (.inl h1)⟩⟩
      · obtain ⟨s, rfl⟩ : ∃ s : Nat, slot = s := ⟨slot.toNat, by omega⟩
        have hs : s < T.zs.length := by omega
        by_cases hf : nth T.zs s = -1
        · exact .inl ⟨run_none hv hs hf, .inr ⟨rfl, .inr (.inr ⟨s, rfl, hs, hf⟩)⟩⟩
        · obtain ⟨p, q, R⟩ := run_says hv hs hf
          exact .inr ⟨s, p, q, rfl, rfl, hs, hf, R⟩

set_option maxHeartbeats 4000000 in
theorem walkFnRunAt (w : World) (a : Option Addr) (len cap : Nat) (zs : List Int) (h : IsRow .u8 w a len cap zs) :
    Calls Try.prog 6 #[.slice a len cap] w fun e w' => e = .returned (.bool true) ∧ Below w.heap.size w w' := by
  obtain ⟨ys, rfl, hC, S0⟩ := came_of h
  clear h
  by_cases hs : ys.length ≤ 1048576
  · have t1 : decide (1048576 < (ys.length : Int)) = false := by simp; omega
    go_enter Try.func6, Try.ntmps6
    go_wp2_with fail
    refine (DrawRunAt_any (by exact S0) hC).mono ?_
    rintro e w1 ⟨T, a1, c1, lo, hi, slot, rfl, hT, ⟨k1, k2⟩, hlo, S1⟩
    obtain ⟨n1, n2⟩ := hT.len
    obtain ⟨p, q, bb, hV⟩ : ∃ (p q : Nat) (bb : Bool), runV (runAt T slot) = .tuple #[.agg #[.int .i64 p, .int .i64 q], .bool bb] := ⟨_, _, _, rfl⟩
    have HRA := RunAt_any T a1 c1 slot
    have HSA := specRunAt_any T a1 c1 slot
    rw [hV] at HRA HSA
    have HRA := Lib.hid HRA
    have HSA := Lib.hid HSA
    have HV := Lib.hid hV
    clear hV
    have S2 := S1.alloc #[.int .i64 T.t, .int .i64 T.p, .slice a1 T.zs.length c1] 29
    go_wp2_with fail
    refine (HRA.out _ (by omega) (by exact S2.ints 1 rfl)).mono ?_
    rintro e w2 ⟨rfl, hb⟩
    have S3 := (S1.alloc1 hb).alloc #[.int .i64 p, .int .i64 q] 37
    clear S1 S2 hb
    obtain ⟨x0, x1, x2, x3, x4, x5, xz⟩ := facts3 (S3.cells 1 rfl)
    go_wp2_with fail
    clear x0 x1 x2 x3 x4 x5 xz
    refine (HSA.out _ (by omega) (by exact S3.ints 2 rfl)).mono ?_
    rintro e w3 ⟨rfl, hb⟩
    have S4 := (S3.below hb).alloc #[.int .i64 p, .int .i64 q] 37
    clear S3 hb
    obtain ⟨x0, x1, x2, x3, x4, x5, xz⟩ := facts3 (S4.cells 2 rfl)
    obtain ⟨y0, y1, y2, y3, yz⟩ := facts2 (S4.cells 1 rfl)
    obtain ⟨z0, z1, z2, z3, zz⟩ := facts2 (S4.cells 0 rfl)
    go_wp2_with fail
    clear x0 x1 x2 x3 x4 x5 xz y0 y1 y2 y3 yz z0 z1 z2 z3 zz
    refine (TableValid_any T a1 c1 _ (by omega) (by exact S4.ints 3 rfl)).mono ?_
    rintro e w4 ⟨rfl, hb⟩
    have S5 := (S4.below hb).turn (l' := [It.box w2.heap.size #[.int .i64 p, .int .i64 q] 37, It.box w1.heap.size #[.int .i64 T.t, .int .i64 T.p, .slice a1 T.zs.length c1] 29, It.own lo hi a1 T.zs]) fun i hi => List.mem_cons_of_mem _ hi
    clear S4 hb
    obtain ⟨x0, x1, x2, x3, x4, x5, xz⟩ := facts3 (S5.cells 1 rfl)
    obtain ⟨y0, y1, y2, y3, yz⟩ := facts2 (S5.cells 0 rfl)
    rcases runat_cases T slot with ⟨hn, hno⟩ | ⟨s, p', q', rfl, hv, hsl, hsf, R⟩
    · have hbb : bb = false ∧ p = 0 ∧ q = 0 := by
        have := HV.out; rw [hn] at this; simp [runV] at this
        exact ⟨this.2, by omega, by omega⟩
      obtain ⟨rfl, rfl, rfl⟩ := hbb
      rcases hno with hv | ⟨hv, hno⟩
      · rw [hv]
        go_wp2
        go_ret
        exact ⟨rfl, S5.old⟩
      · rw [hv]
        rcases hno with h0 | h1 | ⟨s, rfl, hsl, hsf⟩
        · have d : decide (0 ≤ slot) = false := decide_eq_false (by omega)
          go_wp2
          go_ret
          exact ⟨rfl, S5.old⟩
        · have d : decide (0 ≤ slot) = true := decide_eq_true (by omega)
          have d1 : decide (slot < (T.zs.length : Int)) = false := decide_eq_false (by omega)
          go_wp2
          go_ret
          exact ⟨rfl, S5.old⟩
        · have d : decide (0 ≤ (s : Int)) = true := decide_eq_true (by omega)
          have d1 : decide ((s : Int) < (T.zs.length : Int)) = true := decide_eq_true (by omega)
          obtain ⟨b, o, x, rfl, qx, X⟩ := (S5.ints 2 rfl).at hsl
          obtain rfl : -1 = x := hsf.symm.trans X.out
          go_wp2
          go_ret
          exact ⟨rfl, S5.old⟩
    · rw [hv]
      have hbb : bb = true ∧ p = p' ∧ q = q' := by
        have := HV.out; rw [R.at_] at this; simp [runV] at this
        exact ⟨this.2, by omega, by omega⟩
      obtain ⟨rfl, rfl, rfl⟩ := hbb
      have d : decide (0 ≤ (s : Int)) = true := decide_eq_true (by omega)
      have d1 : decide ((s : Int) < (T.zs.length : Int)) = true := decide_eq_true (by omega)
      have ln : ((T.zs.length : Int) == 0) = false := beq_eq_false_iff_ne.2 (by omega)
      have hne : ¬ T.zs = [] := by intro e; rw [e] at hsl; simp at hsl
      have hpl := R.p_lt
      have hql := R.q_le
      have HR := Lib.hid R
      obtain ⟨b, o, x, rfl, qx, X⟩ := (S5.ints 2 rfl).at hsl
      have dx : (x != -1) = true := by rw [← X.out]; simpa using hsf
      go_wp2_with fail
      clear x0 x1 x2 x3 x4 x5 xz y0 y1 y2 y3 yz qx
      have S6 := S5
      clear S5
      go_loopw [10, 11, 12, 73] (fun _ _ _ i wr => ∃ j : Nat, j ≤ q ∧ i = .int .i64 j ∧ St w wr [It.box w2.heap.size #[.int .i64 p, .int .i64 q] 37, It.box w1.heap.size #[.int .i64 T.t, .int .i64 T.p, .slice (some ⟨b, o, none⟩) T.zs.length c1] 29, It.own lo hi (some ⟨b, o, none⟩) T.zs]) (fun _ _ _ i _ => q - (intOf i).toNat)
      case atStart => exact ⟨0, Nat.zero_le _, rfl, S6⟩
      case round =>
        obtain ⟨j, hj, rfl, Sr⟩ := hrel
        clear S6
        obtain ⟨x0, x1, x2, x3, x4, x5, xz⟩ := facts3 (Sr.cells 1 rfl)
        obtain ⟨y0, y1, y2, y3, yz⟩ := facts2 (Sr.cells 0 rfl)
        by_cases hlt : j < q
        · have hmd : ((p : Int) + (j : Int)).tmod (T.zs.length : Int) = (stepS T p j : Nat) := by
            rw [Int.tmod_eq_emod_of_nonneg (by omega), stepS, Int.natCast_emod]; congr 1
          have hsj := (HR.out.all j hlt).2
          have HJ := RunAt_any T (some ⟨b, o, none⟩) c1 ((stepS T p j : Nat) : Int)
          rw [hsj, show runV (some (p, q)) = .tuple #[.agg #[.int .i64 p, .int .i64 q], .bool true] from rfl] at HJ
          have HJ := Lib.hid HJ
          clear hsj
          generalize stepS T p j = sj at hmd HJ
          have z0 := Sr.size
          have z1 : w2.heap.size + 1 ≤ wr.heap.size := Sr.sz 0 rfl
          have z2 : w1.heap.size + 1 ≤ wr.heap.size := Sr.sz 1 rfl
          have z3 : hi ≤ wr.heap.size := Sr.sz 2 rfl
          have SrD := Sr.drew
          have w0 : IntKind.i64.wrap ((p : Int) + (j : Int)) = (p : Int) + (j : Int) := IntWalk.i64_in _ ⟨by omega, by omega⟩
          go_wp2_with fail
          have SrA := (Sr.alloc #[.int .i64 0, .int .i64 0] 37).drew
          have A0 := (facts2 (SrA.cells 1 rfl)).1
          have A1 := (facts3 (SrA.cells 2 rfl)).1
          have A2 := (facts3 (SrA.cells 2 rfl)).2.1
          have A3 := (facts3 (SrA.cells 2 rfl)).2.2.1
          go_region_held3 (fun w' => w'.cell? ⟨w2.heap.size, 0, none⟩ = some (.int .i64 p) ∧ w'.cell? ⟨w1.heap.size, 0, none⟩ = some (.int .i64 T.t) ∧ w'.cell? ⟨w1.heap.size, 1, none⟩ = some (.int .i64 T.p) ∧ w'.cell? ⟨w1.heap.size, 2, none⟩ = some (.slice (some ⟨b, o, none⟩) T.zs.length c1))
            (first
              | exact ⟨y0, x0, x1, x2⟩
              | exact ⟨A0, A1, A2, A3⟩
              | exact ⟨(facts2 (U6.cells 0 rfl)).1, (facts3 (U6.cells 1 rfl)).1, (facts3 (U6.cells 1 rfl)).2.1, (facts3 (U6.cells 1 rfl)).2.2.1⟩
              | exact ⟨(facts2 (U6.cells 1 rfl)).1, (facts3 (U6.cells 2 rfl)).1, (facts3 (U6.cells 2 rfl)).2.1, (facts3 (U6.cells 2 rfl)).2.2.1⟩
              | exact ⟨(facts2 (U7.cells 1 rfl)).1, (facts3 (U7.cells 2 rfl)).1, (facts3 (U7.cells 2 rfl)).2.1, (facts3 (U7.cells 2 rfl)).2.2.1⟩
              | go_keep)
            (first
              | (go_at_call 20; (try rw [w0]); (try rw [hmd]); (with_reducible refine (HJ.out _ (by omega) (by exact SrD.ints 2 rfl)).mono ?_); rintro e w6 ⟨rfl, hb6⟩; have U6 := SrD.below hb6; have U7 := U6.alloc #[.int .i64 p, .int .i64 q] 37)
              | (go_at_call 20; (try rw [w0]); (try rw [hmd]); (with_reducible refine (HJ.out _ (by omega) (by exact SrA.ints 3 rfl)).mono ?_); rintro e w6 ⟨rfl, hb6⟩; have U6 := SrA.below hb6; obtain ⟨v0, v1, v2, v3, vz⟩ := facts2 (U6.cells 0 rfl); have U7 := (U6.setBoxAt 0 rfl 0 (.int .i64 p) (setCell_two0 (U6.cells 0 rfl) _) (by simp [Far, It.box, It.own]; omega) (by omega)).setBoxAt 0 rfl 1 (.int .i64 q) (setCell_two ((U6.setBoxAt 0 rfl 0 (.int .i64 p) (setCell_two0 (U6.cells 0 rfl) _) (by simp [Far, It.box, It.own]; omega) (by omega)).cells 0 rfl) _) (by simp [Far, It.box, It.own]; omega) (by omega)))
          all_goals
            obtain ⟨q0, q1, q2, q3, qz⟩ := facts2 (U7.cells 0 rfl)
            obtain ⟨r0, r1, r2, r3, rz⟩ := facts2 (U7.cells 1 rfl)
            have U8 := U7.turn (l' := [It.box w2.heap.size #[.int .i64 p, .int .i64 q] 37, It.box w1.heap.size #[.int .i64 T.t, .int .i64 T.p, .slice (some ⟨b, o, none⟩) T.zs.length c1] 29, It.own lo hi (some ⟨b, o, none⟩) T.zs]) fun i hi => List.mem_cons_of_mem _ hi
            go_wp2
            go_roundw
            case rel => exact ⟨j + 1, by omega, by go_num, U8⟩
            case measure => simp [intOf]; omega
        · obtain rfl : j = q := by omega
          clear x0 x1 x2 x3 x4 x5 xz y0 y1 y2 y3 yz
          obtain ⟨x0, x1, x2, x3, x4, x5, xz⟩ := facts3 (Sr.cells 1 rfl)
          obtain ⟨y0, y1, y2, y3, yz⟩ := facts2 (Sr.cells 0 rfl)
          have hin := HR.out.in_
          have hmd : ((s : Int) - (p : Int) + (T.zs.length : Int)).tmod (T.zs.length : Int) = ((s + T.zs.length - p) % T.zs.length : Nat) := by
            rw [Int.tmod_eq_emod_of_nonneg (by omega), Int.natCast_emod]; congr 1; omega
          generalize (s + T.zs.length - p) % T.zs.length = dd at hmd hin
          have e0 : (0 : Int) ≤ (s : Int) - (p : Int) + 16 := by omega
          have w0 : IntKind.i64.wrap ((s : Int) - (p : Int)) = (s : Int) - (p : Int) := IntWalk.i64_in _ ⟨by omega, by omega⟩
          have w00 : IntKind.i64.wrap ((s : Int) - (p : Int) + (T.zs.length : Int)) = (s : Int) - (p : Int) + (T.zs.length : Int) := IntWalk.i64_in _ ⟨by omega, by omega⟩
          go_wp2_with fail
          go_quiet (fail)
          go_wp2
          go_ret
          exact ⟨rfl, (Sr.drewN _).old⟩
  · have t1 : decide (1048576 < (ys.length : Int)) = true := by simp; omega
    go_enter Try.func6, Try.ntmps6
    go_wp2_with fail
    go_ret
    exact ⟨rfl, S0.old⟩

end Go.Proofs.Ytpbffdjiijpigaa

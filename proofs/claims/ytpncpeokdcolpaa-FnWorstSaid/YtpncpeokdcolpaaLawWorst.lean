/-
  The law FnWorst: the walk.
-/
import Derived.Test.YtpncpeokdcolpaaCame
import Derived.Test.YtpncpeokdcolpaaDraw12
import Derived.Test.YtpncpeokdcolpaaCount
import Derived.Test.YtpncpeokdcolpaaCosts
import Derived.Test.YtpncpeokdcolpaaRunsOfI
import Derived.Test.YtpncpeokdcolpaaWorstM
namespace Go.Proofs.Ytpncpeokdcolpaa
open Go.RowKit

set_option maxRecDepth 100000 in
set_option maxHeartbeats 4000000 in
theorem walkFnWorst (w : World) (a : Option Addr) (len cap : Nat) (zs : List Int) (h : IsRow .u8 w a len cap zs) :
    Calls Try.prog 7 #[.slice a len cap] w fun e w' => e = .returned (.bool true) ∧ Below w.heap.size w w' := by
  obtain ⟨ys, rfl, hC, S0⟩ := came_of h
  clear h
  by_cases hs : ys.length ≤ 1048576
  · have t1 : decide (1048576 < (ys.length : Int)) = false := by simp; omega
    go_enter Try.func7, Try.ntmps7
    go_wp2_with fail
    refine (DrawWorstMiss_any (by exact S0) hC).mono ?_
    rintro e w1 ⟨T, a1, c1, lo, hi, rfl, hT, hlo, S1⟩
    obtain ⟨n1, n2⟩ := hT.len
    have S2 := S1.alloc #[.int .i64 T.t, .int .i64 T.p, .slice a1 T.zs.length c1] 27
    go_wp2_with fail
    refine (WorstMiss_any T a1 c1 _ (by omega) (by exact S2.ints 1 rfl)).mono ?_
    rintro e w2 ⟨rfl, hb⟩
    have S3 := S1.alloc1 hb
    clear S1 S2 hb
    obtain ⟨x0, x1, x2, x3, x4, x5, xz⟩ := facts3 (S3.cells 0 rfl)
    go_wp2_with fail
    clear x0 x1 x2 x3 x4 x5 xz
    refine (specWorstMiss_any T a1 c1 _ (by omega) (by exact S3.ints 1 rfl)).mono ?_
    rintro e w3 ⟨rfl, hb⟩
    have S4 := S3.below hb
    clear S3 hb
    obtain ⟨x0, x1, x2, x3, x4, x5, xz⟩ := facts3 (S4.cells 0 rfl)
    cases hv : validB T
    · have E : worstI T = -1 := by simp [worstI, hv]
      rw [E]
      go_wp2_with fail
      clear x0 x1 x2 x3 x4 x5 xz
      refine (specWorstMiss_any T a1 c1 _ (by omega) (by exact S4.ints 1 rfl)).mono ?_
      rw [E]
      rintro e w4 ⟨rfl, hb⟩
      have S5 := S4.below hb
      clear S4 hb
      obtain ⟨x0, x1, x2, x3, x4, x5, xz⟩ := facts3 (S5.cells 0 rfl)
      go_wp2_with fail
      refine (TableValid_any T a1 c1 _ (by omega) (by exact S5.ints 1 rfl)).mono ?_
      rw [hv]
      rintro e w5 ⟨rfl, hb⟩
      have S6 := S5.below hb
      go_wp2_with fail
      go_ret
      exact ⟨rfl, S6.old⟩
    · have E : worstI T = (worstTo T T.zs.length : Nat) := by simp [worstI, hv]
      rw [E]
      clear E
      have HC := Lib.hid fun (W : World) h => CountSlots_any T a1 c1 W (by omega) h
      have HRA := fun (W : World) h => RunAt_any T a1 c1 (worstTo T T.zs.length : Nat) W (by omega) h
      have hrun := worst_run hv
      obtain ⟨hm1, hm2⟩ := worst_to T T.zs.length
      have hwl : worstTo T T.zs.length < T.zs.length := worstTo_lt (by omega)
      have HMA := fun (W : World) (k : Nat) (hk : k < T.zs.length) h => (miss_run hv hk).1 ▸ MissAt_any T a1 c1 k W (by omega) h
      have HMA := Lib.hid HMA
      have HM1 := Lib.hid hm1
      have HM2 := Lib.hid hm2
      clear hm1 hm2
      generalize worstTo T T.zs.length = q at HRA hrun HM1 HM2 hwl ⊢
      obtain ⟨pp, qq, bb, hV⟩ : ∃ (pp qq : Nat) (bb : Bool), runV (runAt T (q : Int)) = .tuple #[.agg #[.int .i64 pp, .int .i64 qq], .bool bb] := ⟨_, _, _, rfl⟩
      rw [hV] at HRA
      have HRA := Lib.hid HRA
      have HV := Lib.hid hV
      clear hV
      generalize countF T = cf at HC hrun
      go_wp2_with fail
      clear x0 x1 x2 x3 x4 x5 xz
      have z1 : w1.heap.size < w3.heap.size := S4.sz 0 rfl
      go_loopw [38] (fun i wr => ∃ k : Nat, k ≤ T.zs.length ∧ i = .int .i64 k ∧ St w wr [It.box w1.heap.size #[.int .i64 T.t, .int .i64 T.p, .slice a1 T.zs.length c1] 27, It.own lo hi a1 T.zs]) (fun i _ => T.zs.length - (intOf i).toNat)
      case atStart => exact ⟨0, Nat.zero_le _, rfl, S4⟩
      case round =>
        obtain ⟨k, hk, rfl, Sr⟩ := hrel
        clear S4
        obtain ⟨x0, x1, x2, x3, x4, x5, xz⟩ := facts3 (Sr.cells 0 rfl)
        by_cases hlt : k < T.zs.length
        · have hle := HM1.out k hlt
          have hls := HM2.out k
          have HI := Lib.hid fun W h => HMA.out W k hlt h
          have HW := Lib.hid fun W h => HMA.out W q hwl h
          generalize missN T k = mi at hle hls HI
          generalize missN T q = mw at hle hls HW
          have hmix : Try.prog.follows .mixedOrders = true := by kernel_rfl
          have d1 : decide ((mw : Int) < (mi : Int)) = false := decide_eq_false (by omega)
          by_cases hkq : k < q
          · have d2 : decide ((k : Int) < (q : Int)) = true := decide_eq_true (by omega)
            have hlt2 := hls hkq
            have d3 : ((mi : Int) == (mw : Int)) = false := beq_eq_false_iff_ne.2 (by omega)
            go_wp2_with fail
            refine (wpIn_wide (n := 9)).1 ?_
            refine wpIn_region_quietR (fun w' => Below wr.heap.size wr w') hmix (by kernel_rfl) (by kernel_rfl) ((Below.refl _ _).drew) ?_
            refine wpQuietIn_step (fun _ _ _ _ => trivial) (fun K hK => ?_)
            go_simp
            refine ⟨tabV T a1 c1, fun w' hb => ?_, hK _ ?_⟩
            · have q0 := (hb.cell (p := ⟨w1.heap.size, 0, none⟩) (by show w1.heap.size < _; omega)).trans x0
              have q1 := (hb.cell (p := ⟨w1.heap.size, 1, none⟩) (by show w1.heap.size < _; omega)).trans x1
              have q2 := (hb.cell (p := ⟨w1.heap.size, 2, none⟩) (by show w1.heap.size < _; omega)).trans x2
              unfold tabV
              go_simp
            clear hK K
            refine wpQuietIn_step (fun _ _ _ _ => trivial) (fun K hK => ?_)
            go_simp
            refine ⟨_, fun w' hb => rfl, hK _ ?_⟩
            clear hK K
            refine wpQuietIn_step (fun _ _ _ _ => trivial) (fun K hK => ?_)
            go_simp
            refine ⟨.int .i64 (mi : Nat), fun w' hb => (callsIn_wide.2 (HI.out w' (by exact (Sr.below hb).ints 1 rfl))).mono ?_, hK _ ?_⟩
            · rintro e w10 ⟨rfl, hb6⟩
              exact ⟨rfl, hb.trans (hb6.mono hb.size)⟩
            clear hK K
            refine wpQuietIn_step (fun _ _ _ _ => trivial) (fun K hK => ?_)
            go_simp
            refine ⟨tabV T a1 c1, fun w' hb => ?_, hK _ ?_⟩
            · have q0 := (hb.cell (p := ⟨w1.heap.size, 0, none⟩) (by show w1.heap.size < _; omega)).trans x0
              have q1 := (hb.cell (p := ⟨w1.heap.size, 1, none⟩) (by show w1.heap.size < _; omega)).trans x1
              have q2 := (hb.cell (p := ⟨w1.heap.size, 2, none⟩) (by show w1.heap.size < _; omega)).trans x2
              unfold tabV
              go_simp
            clear hK K
            refine wpQuietIn_step (fun _ _ _ _ => trivial) (fun K hK => ?_)
            go_simp
            refine ⟨_, fun w' hb => rfl, hK _ ?_⟩
            clear hK K
            refine wpQuietIn_step (fun _ _ _ _ => trivial) (fun K hK => ?_)
            go_simp
            refine ⟨.int .i64 (mw : Nat), fun w' hb => (callsIn_wide.2 (HW.out w' (by exact (Sr.below hb).ints 1 rfl))).mono ?_, hK _ ?_⟩
            · rintro e w10 ⟨rfl, hb6⟩
              exact ⟨rfl, hb.trans (hb6.mono hb.size)⟩
            clear hK K
            refine wpQuietIn_step (fun _ _ _ _ => trivial) (fun K hK => ?_)
            go_simp
            refine ⟨_, fun w' hb => rfl, hK _ ?_⟩
            clear hK K
            refine wpQuietIn_step (fun _ _ _ _ => trivial) (fun K hK => ?_)
            go_simp
            refine ⟨_, fun w' hb => rfl, hK _ ?_⟩
            clear hK K
            refine wpQuietIn_step (fun _ _ _ _ => trivial) (fun K hK => ?_)
            go_simp
            refine ⟨_, fun w' hb => rfl, hK _ ?_⟩
            clear hK K
            refine wpQuietIn_step (fun _ _ _ _ => trivial) (fun K hK => ?_)
            go_simp
            refine ⟨_, fun w' hb => rfl, hK _ ?_⟩
            clear hK K
            refine wpQuietIn_step (fun _ _ _ _ => trivial) (fun K hK => ?_)
            go_simp
            refine ⟨_, fun w' hb => rfl, hK _ ?_⟩
            clear hK K
            refine wpQuietIn_step (fun _ _ _ _ => trivial) (fun K hK => ?_)
            go_simp
            refine ⟨_, fun w' hb => rfl, hK _ ?_⟩
            clear hK K
            refine wpQuietIn_step (fun _ _ _ _ => trivial) (fun K hK => ?_)
            go_simp
            refine ⟨tabV T a1 c1, fun w' hb => ?_, hK _ ?_⟩
            · have q0 := (hb.cell (p := ⟨w1.heap.size, 0, none⟩) (by show w1.heap.size < _; omega)).trans x0
              have q1 := (hb.cell (p := ⟨w1.heap.size, 1, none⟩) (by show w1.heap.size < _; omega)).trans x1
              have q2 := (hb.cell (p := ⟨w1.heap.size, 2, none⟩) (by show w1.heap.size < _; omega)).trans x2
              unfold tabV
              go_simp
            clear hK K
            refine wpQuietIn_step (fun _ _ _ _ => trivial) (fun K hK => ?_)
            go_simp
            refine ⟨_, fun w' hb => rfl, hK _ ?_⟩
            clear hK K
            refine wpQuietIn_step (fun _ _ _ _ => trivial) (fun K hK => ?_)
            go_simp
            refine ⟨.int .i64 (mi : Nat), fun w' hb => (callsIn_wide.2 (HI.out w' (by exact (Sr.below hb).ints 1 rfl))).mono ?_, hK _ ?_⟩
            · rintro e w10 ⟨rfl, hb6⟩
              exact ⟨rfl, hb.trans (hb6.mono hb.size)⟩
            clear hK K
            refine wpQuietIn_step (fun _ _ _ _ => trivial) (fun K hK => ?_)
            go_simp
            refine ⟨tabV T a1 c1, fun w' hb => ?_, hK _ ?_⟩
            · have q0 := (hb.cell (p := ⟨w1.heap.size, 0, none⟩) (by show w1.heap.size < _; omega)).trans x0
              have q1 := (hb.cell (p := ⟨w1.heap.size, 1, none⟩) (by show w1.heap.size < _; omega)).trans x1
              have q2 := (hb.cell (p := ⟨w1.heap.size, 2, none⟩) (by show w1.heap.size < _; omega)).trans x2
              unfold tabV
              go_simp
            clear hK K
            refine wpQuietIn_step (fun _ _ _ _ => trivial) (fun K hK => ?_)
            go_simp
            refine ⟨_, fun w' hb => rfl, hK _ ?_⟩
            clear hK K
            refine wpQuietIn_step (fun _ _ _ _ => trivial) (fun K hK => ?_)
            go_simp
            refine ⟨.int .i64 (mw : Nat), fun w' hb => (callsIn_wide.2 (HW.out w' (by exact (Sr.below hb).ints 1 rfl))).mono ?_, hK _ ?_⟩
            · rintro e w10 ⟨rfl, hb6⟩
              exact ⟨rfl, hb.trans (hb6.mono hb.size)⟩
            clear hK K
            refine wpQuietIn_step (fun _ _ _ _ => trivial) (fun K hK => ?_)
            go_simp
            refine ⟨_, fun w' hb => rfl, hK _ ?_⟩
            clear hK K
            refine wpQuietIn_step (fun _ _ _ _ => trivial) (fun K hK => ?_)
            go_simp
            refine ⟨_, fun w' hb => rfl, hK _ ?_⟩
            clear hK K
            refine wpQuietIn_step (fun _ _ _ _ => trivial) (fun K hK => ?_)
            go_simp
            refine ⟨_, fun w' hb => rfl, hK _ ?_⟩
            clear hK K
            refine fun w10 hb => ?_
            have S9 := Sr.below hb
            clear x0 x1 x2 x3 x4 x5 xz
            go_wp2_with fail
            go_roundw
            case rel => exact ⟨k + 1, by omega, by go_num, S9⟩
            case measure => simp [intOf]; omega
          · have d2 : decide ((k : Int) < (q : Int)) = false := decide_eq_false (by omega)
            go_wp2_with fail
            refine (wpIn_wide (n := 9)).1 ?_
            refine wpIn_region_quietR (fun w' => Below wr.heap.size wr w') hmix (by kernel_rfl) (by kernel_rfl) ((Below.refl _ _).drew) ?_
            refine wpQuietIn_step (fun _ _ _ _ => trivial) (fun K hK => ?_)
            go_simp
            refine ⟨tabV T a1 c1, fun w' hb => ?_, hK _ ?_⟩
            · have q0 := (hb.cell (p := ⟨w1.heap.size, 0, none⟩) (by show w1.heap.size < _; omega)).trans x0
              have q1 := (hb.cell (p := ⟨w1.heap.size, 1, none⟩) (by show w1.heap.size < _; omega)).trans x1
              have q2 := (hb.cell (p := ⟨w1.heap.size, 2, none⟩) (by show w1.heap.size < _; omega)).trans x2
              unfold tabV
              go_simp
            clear hK K
            refine wpQuietIn_step (fun _ _ _ _ => trivial) (fun K hK => ?_)
            go_simp
            refine ⟨_, fun w' hb => rfl, hK _ ?_⟩
            clear hK K
            refine wpQuietIn_step (fun _ _ _ _ => trivial) (fun K hK => ?_)
            go_simp
            refine ⟨.int .i64 (mi : Nat), fun w' hb => (callsIn_wide.2 (HI.out w' (by exact (Sr.below hb).ints 1 rfl))).mono ?_, hK _ ?_⟩
            · rintro e w10 ⟨rfl, hb6⟩
              exact ⟨rfl, hb.trans (hb6.mono hb.size)⟩
            clear hK K
            refine wpQuietIn_step (fun _ _ _ _ => trivial) (fun K hK => ?_)
            go_simp
            refine ⟨tabV T a1 c1, fun w' hb => ?_, hK _ ?_⟩
            · have q0 := (hb.cell (p := ⟨w1.heap.size, 0, none⟩) (by show w1.heap.size < _; omega)).trans x0
              have q1 := (hb.cell (p := ⟨w1.heap.size, 1, none⟩) (by show w1.heap.size < _; omega)).trans x1
              have q2 := (hb.cell (p := ⟨w1.heap.size, 2, none⟩) (by show w1.heap.size < _; omega)).trans x2
              unfold tabV
              go_simp
            clear hK K
            refine wpQuietIn_step (fun _ _ _ _ => trivial) (fun K hK => ?_)
            go_simp
            refine ⟨_, fun w' hb => rfl, hK _ ?_⟩
            clear hK K
            refine wpQuietIn_step (fun _ _ _ _ => trivial) (fun K hK => ?_)
            go_simp
            refine ⟨.int .i64 (mw : Nat), fun w' hb => (callsIn_wide.2 (HW.out w' (by exact (Sr.below hb).ints 1 rfl))).mono ?_, hK _ ?_⟩
            · rintro e w10 ⟨rfl, hb6⟩
              exact ⟨rfl, hb.trans (hb6.mono hb.size)⟩
            clear hK K
            refine wpQuietIn_step (fun _ _ _ _ => trivial) (fun K hK => ?_)
            go_simp
            refine ⟨_, fun w' hb => rfl, hK _ ?_⟩
            clear hK K
            refine wpQuietIn_step (fun _ _ _ _ => trivial) (fun K hK => ?_)
            go_simp
            refine ⟨_, fun w' hb => rfl, hK _ ?_⟩
            clear hK K
            refine wpQuietIn_step (fun _ _ _ _ => trivial) (fun K hK => ?_)
            go_simp
            refine ⟨_, fun w' hb => rfl, hK _ ?_⟩
            clear hK K
            refine wpQuietIn_step (fun _ _ _ _ => trivial) (fun K hK => ?_)
            go_simp
            refine ⟨_, fun w' hb => rfl, hK _ ?_⟩
            clear hK K
            refine wpQuietIn_step (fun _ _ _ _ => trivial) (fun K hK => ?_)
            go_simp
            refine ⟨_, fun w' hb => rfl, hK _ ?_⟩
            clear hK K
            refine wpQuietIn_step (fun _ _ _ _ => trivial) (fun K hK => ?_)
            go_simp
            refine ⟨_, fun w' hb => rfl, hK _ ?_⟩
            clear hK K
            refine wpQuietIn_step (fun _ _ _ _ => trivial) (fun K hK => ?_)
            go_simp
            refine hK _ ?_
            clear hK K
            refine wpQuietIn_step (fun _ _ _ _ => trivial) (fun K hK => ?_)
            go_simp
            refine hK _ ?_
            clear hK K
            refine wpQuietIn_step (fun _ _ _ _ => trivial) (fun K hK => ?_)
            go_simp
            refine hK _ ?_
            clear hK K
            refine wpQuietIn_step (fun _ _ _ _ => trivial) (fun K hK => ?_)
            go_simp
            refine hK _ ?_
            clear hK K
            refine wpQuietIn_step (fun _ _ _ _ => trivial) (fun K hK => ?_)
            go_simp
            refine hK _ ?_
            clear hK K
            refine wpQuietIn_step (fun _ _ _ _ => trivial) (fun K hK => ?_)
            go_simp
            refine hK _ ?_
            clear hK K
            refine wpQuietIn_step (fun _ _ _ _ => trivial) (fun K hK => ?_)
            go_simp
            refine hK _ ?_
            clear hK K
            refine wpQuietIn_step (fun _ _ _ _ => trivial) (fun K hK => ?_)
            go_simp
            refine ⟨_, fun w' hb => rfl, hK _ ?_⟩
            clear hK K
            refine wpQuietIn_step (fun _ _ _ _ => trivial) (fun K hK => ?_)
            go_simp
            refine ⟨_, fun w' hb => rfl, hK _ ?_⟩
            clear hK K
            refine fun w10 hb => ?_
            have S9 := Sr.below hb
            clear x0 x1 x2 x3 x4 x5 xz
            go_wp2_with fail
            go_roundw
            case rel => exact ⟨k + 1, by omega, by go_num, S9⟩
            case measure => simp [intOf]; omega
        · obtain rfl : k = T.zs.length := by omega
          go_wp2_with fail
          clear x0 x1 x2 x3 x4 x5 xz
          refine (HRA.out _ (by exact Sr.ints 1 rfl)).mono ?_
          rintro e w5 ⟨rfl, hb⟩
          have S5 := (Sr.below hb).alloc #[.int .i64 pp, .int .i64 qq] 37
          clear Sr hb
          obtain ⟨x0, x1, x2, x3, x4, x5, xz⟩ := facts3 (S5.cells 1 rfl)
          obtain ⟨y0, y1, y2, y3, yz⟩ := facts2 (S5.cells 0 rfl)
          go_wp2_with fail
          clear x0 x1 x2 x3 x4 x5 xz y0 y1 y2 y3 yz
          refine (HC.out _ (by exact S5.ints 2 rfl)).mono ?_
          rintro e w6 ⟨rfl, hb⟩
          have S6 := S5.below hb
          clear S5 hb
          obtain ⟨y0, y1, y2, y3, yz⟩ := facts2 (S6.cells 0 rfl)
          rcases hrun with h1 | h1 | ⟨q2, h1⟩
          · subst h1
            go_wp2_with fail
            go_ret
            exact ⟨rfl, S6.old⟩
          · have hbb : bb = false := by have := HV.out; rw [h1] at this; simp [runV] at this; exact this.2
            subst hbb
            by_cases c0 : cf = 0
            · subst c0
              go_wp2_with fail
              go_ret
              exact ⟨rfl, S6.old⟩
            · have d0 : (cf == 0) = false := by simpa using c0
              go_wp2_with fail
              go_ret
              exact ⟨rfl, S6.old⟩
          · have hbb : bb = true ∧ q = pp := by
              have := HV.out; rw [h1] at this; simp [runV] at this
              exact ⟨this.2, by omega⟩
            obtain ⟨rfl, rfl⟩ := hbb
            by_cases c0 : cf = 0
            · subst c0
              go_wp2_with fail
              go_ret
              exact ⟨rfl, S6.old⟩
            · have d0 : (cf == 0) = false := by simpa using c0
              go_wp2_with fail
              go_ret
              exact ⟨rfl, S6.old⟩
  · have t1 : decide (1048576 < (ys.length : Int)) = true := by simp; omega
    go_enter Try.func7, Try.ntmps7
    go_wp2_with fail
    go_ret
    exact ⟨rfl, S0.old⟩

end Go.Proofs.Ytpncpeokdcolpaa

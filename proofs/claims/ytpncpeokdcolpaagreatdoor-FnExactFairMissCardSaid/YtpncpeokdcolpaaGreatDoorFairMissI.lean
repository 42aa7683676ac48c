/-
  FairMiss of the program.
-/
import Derived.Test.YtpncpeokdcolpaaGreatDoorFairAll
import Derived.Test.YtpncpeokdcolpaaGreatDoorCostA
import Derived.Test.YtpncpeokdcolpaaGreatDoorFairMissS
namespace Go.Proofs.YtpncpeokdcolpaaGreatDoor
open Go.RowKit Go.Shelf
attribute [local go_sem] Oper.semAt_some

set_option maxRecDepth 100000 in
theorem fairMiss1_any (cb g k n0 : Nat) (d : Nat) (T : Tab) (l : List It) (w0 w : World) (hk : k < T.zs.length) (l2 : T.zs.length ≤ 16)
    (i0 : l[n0]? = some (It.box cb (laneK g T T.zs.length) 60)) (S : St w0 w l) :
    Calls Tryz.prog 47 #[.int .i64 k, .int .i64 d, .pointer (some ⟨cb, 0, none⟩)] w fun e w' => e = .returned (.bool (decide (awayOf T (k : Int) < (d : Int)))) ∧ Below w.heap.size w w' := by
  obtain ⟨_, LC, _⟩ := lane_cells (S.cells n0 i0)
  obtain ⟨_, _, e2⟩ := lzk_at T T.zs.length k hk
  have c2 := LC (k * 3 + 2) (by omega)
  rw [e2] at c2
  rw [show k * 3 + 2 + 1 = 1 + k * 3 + 2 by omega] at c2
  clear LC e2
  have k0 : (0 : Int) ≤ (k : Int) := by omega
  have k1 : (k : Int) < 16 := by omega
  generalize awayOf T (k : Int) = aw at c2 ⊢
  by_cases h : aw < (d : Int)
  · have d1 : decide (aw < (d : Int)) = true := decide_eq_true h
    rw [d1]
    go_enter Tryz.func47, Tryz.ntmps47
    go_wp2
    go_ret
    exact ⟨rfl, Below.refl _ _⟩
  · have d1 : decide (aw < (d : Int)) = false := decide_eq_false h
    rw [d1]
    go_enter Tryz.func47, Tryz.ntmps47
    go_wp2
    go_ret
    exact ⟨rfl, Below.refl _ _⟩

set_option maxRecDepth 100000 in
set_option maxHeartbeats 4000000 in
theorem FairMiss_any (T : Tab) (a : Option Addr) (c : Nat) (home : Int) (w : World) (hx : T.zs.length ≤ 9223372036854775807) (h1 : IntsAt w a T.zs) (hL : Laid w) :
    Calls Tryz.prog 11 #[tabV T a c, .int .i64 home] w fun e w' => e = .returned (.int .i64 (fmissI T home)) ∧ Below w.heap.size w w' := by
  have S0 := tabBox c 27 h1
  have hL0 := hL.below S0.old hL.pos
  cases hf : fairB T
  · go_enter Tryz.func11, Tryz.ntmps11
    go_wp2_with fail
    refine (IsFair_any T a c _ hx (by exact S0.reads 1 rfl) hL0).mono ?_
    rw [hf]
    rintro e w1 ⟨rfl, hb⟩
    have S1 := S0.below hb
    go_wp2
    go_ret
    exact ⟨by simp [fmissI, hf], S1.old⟩
  · have hv := fair_valid hf
    obtain ⟨⟨l1, l2⟩, _⟩ := valid_facts hv
    have HFB := Lib.hid hf
    cases hi : inB home 0 (T.zs.length - 1)
    · have R : Hid (fmissI T home = -1) := Lib.hid (by simp [fmissI, hi])
      clear hf
      go_enter Tryz.func11, Tryz.ntmps11
      go_wp2_with fail
      refine (IsFair_any T a c _ hx (by exact S0.reads 1 rfl) hL0).mono ?_
      rw [HFB.out]
      rintro e w1 ⟨rfl, hb⟩
      have S1 := S0.below hb
      obtain ⟨x0, x1, x2, x3, x4, x5, xz⟩ := facts3 (S1.cells 0 rfl)
      go_wp2_with fail
      refine (hasSlot_any T a c home _).mono ?_
      rw [hi]
      rintro e w2 ⟨rfl, hb⟩
      have S2 := S1.below hb
      go_wp2
      go_ret
      exact ⟨by rw [R.out]; rfl, S2.old⟩
    · obtain ⟨s0, s1⟩ := inB_iff.1 hi
      obtain ⟨h, rfl⟩ : ∃ h : Nat, home = h := ⟨home.toNat, by omega⟩
      have hh : h < T.zs.length := by omega
      have R : Hid (fmissI T h = (cntN (nearAt T h) T.zs.length : Nat)) := Lib.hid (by simp [fmissI, hf, hi, fmissN])
      have HV := Lib.hid hv
      have HI := Lib.hid hi
      clear hf hv hi
      go_enter Tryz.func11, Tryz.ntmps11
      go_wp2_with fail
      refine (IsFair_any T a c _ hx (by exact S0.reads 1 rfl) hL0).mono ?_
      rw [HFB.out]
      rintro e w1 ⟨rfl, hb⟩
      have S1 := S0.below hb
      clear S0 hb hL0
      obtain ⟨x0, x1, x2, x3, x4, x5, xz⟩ := facts3 (S1.cells 0 rfl)
      go_wp2_with fail
      refine (hasSlot_any T a c h _).mono ?_
      rw [HI.out]
      rintro e w2 ⟨rfl, hb⟩
      have S2 := S1.below hb
      clear S1 hb x0 x1 x2 x3 x4 x5 xz
      obtain ⟨x0, x1, x2, x3, x4, x5, xz⟩ := facts3 (S2.cells 0 rfl)
      go_wp2_with fail
      refine (laneOf_any T a c _ (by exact S2.reads 1 rfl) HV.out).mono ?_
      rintro e w3 ⟨g, rfl, hR, hg, hgo, hb⟩
      have S3 := ((((S2.below hb).turn (l' := []) fun i hi => by cases hi).add (It.ring w2.heap.size w3.heap.size g T) (Nat.le_refl _) ⟨hR, hgo, hg⟩).alloc laneZ 60).setRowAt (c' := laneK g T T.zs.length) (by simp [Far, It.box, It.ring]) (Nat.le_trans S2.size hb.size)
      rw [World.setRow_alloc_new] at S3
      have S5 := (S3.alloc #[.slice (some ⟨g, 0, none⟩) T.zs.length T.zs.length] 52).alloc #[.int .i64 h] 3
      simp only [World.size_alloc] at S5
      have q0 := (lane_cells (S3.cells 0 rfl)).1
      clear S2 hb hR x0 x1 x2 x3 x4 x5 xz
      have V := Lib.hid (visitsUpTo_any 47 w3.heap.size (w3.heap.size + 1) (w3.heap.size + 1 + 1) w2.heap.size w3.heap.size g h 1 0 3 T (nearAt T h) _ w _ l1 l2 hh rfl rfl rfl S5 (enters_of Tryz.func47 (by kernel_rfl) rfl)
        (fun d W hd hW => fairMiss1_any w3.heap.size g (stepS T h d) 2 d T _ w W (stepS_lt l1 h d) l2 rfl hW))
      clear S3 S5
      dsimp only
      apply_assumption
      refine wide_alloc rfl 60 rfl laneZ laneZero ?_
      refine wide_store rfl (.tmp 5) (.tmp 16) 60 rfl w3.heap.size 60 laneZ (laneK g T T.zs.length) rfl rfl (heap_alloc_last _ _) (by rw [laneSize, laneK_size]) (by rw [laneZ_size, laneK_size]) (laneK_one g T T.zs.length) ?_
      rw [World.setRow_alloc_new]
      go_wp2_with (first | (go_at_call 46; refine (ringAround_any _ _ _ _ _).mono ?_; rintro e w' ⟨rfl, rfl⟩))
      refine V.out.mono ?_
      rintro e w5 ⟨rfl, S9⟩
      go_wp2
      go_ret
      exact ⟨by rw [R.out]; rfl, S9.old⟩

end Go.Proofs.YtpncpeokdcolpaaGreatDoor

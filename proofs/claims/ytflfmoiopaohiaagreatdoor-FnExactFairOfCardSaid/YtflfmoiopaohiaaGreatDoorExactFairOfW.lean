/-
  The exact law of FairOf: the walk.
-/
import Derived.Test.YtflfmoiopaohiaaGreatDoorNew
import Derived.Test.YtflfmoiopaohiaaGreatDoorExactSameW
import Derived.Test.YtflfmoiopaohiaaGreatDoorIntsW
import Derived.Test.YtflfmoiopaohiaaGreatDoorFairs2All
namespace Go.Proofs.YtflfmoiopaohiaaGreatDoor
open Go.RowKit

set_option maxHeartbeats 4000000 in
theorem walkFnExactFairOf (w : World) (T : Tab) (a : Option Addr) (c : Nat) (h : TabIn w T a) (hL : Laid w) :
    Calls Tryz.prog 5 #[tabV T a c] w fun e w' => e = .returned (.bool true) ∧ Below w.heap.size w w' := by
  have hx := h.len
  have S0 := ((St.start w).read h.at_).alloc #[.int .i64 T.t, .int .i64 T.p, .slice a T.zs.length c] 38
  have HS := Lib.hid fun (a : Option Addr) (c : Nat) (W : World) (h1 : IntsAt W a T.zs) => specFairOf_any T a c W hx h1
  have HI := Lib.hid fun (a : Option Addr) (c : Nat) (W : World) (h1 : IntsAt W a T.zs) (hl : Laid W) => FairOf_any T a c W hx h1 hl
  have hxl := fofT_len T
  generalize fofT T = U at HS HI hxl
  generalize fofOk T = ok at HS HI
  by_cases hs : T.zs.length ≤ 1048576
  · have t1 : decide ((1048576 : Int) - (T.zs.length : Int) < 0) = false := by simp; omega
    obtain ⟨x0, x1, x2, x3, x4, x5, xz⟩ := facts3 (S0.cells 0 rfl)
    go_enter Tryz.func5, Tryz.ntmps5
    go_wp2_with fail
    clear x0 x1 x2 x3 x4 x5 xz
    refine (szTable_ok T.t T.p a T.zs.length c 1048576 _ (by omega) (by omega)).mono ?_
    rintro e w1 ⟨rfl, hb⟩
    have S1 := S0.below hb
    clear S0 hb
    obtain ⟨x0, x1, x2, x3, x4, x5, xz⟩ := facts3 (S1.cells 0 rfl)
    go_wp2_with fail
    clear x0 x1 x2 x3 x4 x5
    refine (toTable_any T a c _ hs (by exact S1.reads 1 rfl)).mono ?_
    rintro e w2 ⟨a2, c2, rfl, ho, hb⟩
    have S2 := (S1.below hb).own ho
    have z2 := hb.size
    clear S1 hb ho
    go_wp2_with fail
    refine (HS.out a2 c2 _ (by exact S2.ints 0 rfl)).mono ?_
    rintro e w3 ⟨a3, c3, rfl, ho, hb⟩
    have S3 := (S2.below hb).own ho
    have z3 := hb.size
    clear S2 hb ho
    obtain ⟨x0, x1, x2, x3, x4, x5, _⟩ := facts3 (S3.cells 2 rfl)
    go_wp2_with fail
    clear x0 x1 x2 x3 x4 x5
    refine (toTable_any T a c _ hs (by exact (S3.alloc _ 25).reads 4 rfl)).mono ?_
    rintro e w4 ⟨a4, c4, rfl, ho, hb⟩
    have S4 := (S3.alloc1 hb).own ho
    have z4 := hb.size
    simp only [World.size_alloc] at z4
    clear S3 hb ho
    go_wp2_with fail
    refine (HI.out a4 c4 _ (by exact (S4.alloc _ 25).ints 1 rfl) (hL.below (S4.alloc _ 25).old hL.pos)).mono ?_
    rintro e w5 ⟨a5, c5, rfl, ho, hb⟩
    have S5 := (S4.alloc1 hb).own ho
    have z5 := hb.size
    simp only [World.size_alloc] at z5
    clear S4 hb ho
    obtain ⟨x0, x1, x2, x3, x4, x5, _⟩ := facts3 (S5.cells 3 rfl)
    go_wp2_with fail
    clear x0 x1 x2 x3 x4 x5
    refine (eqTable_same U a5 a3 c5 c3 _ (by omega) (by exact (S5.alloc _ 25).ints 1 rfl) (by exact (S5.alloc _ 25).ints 5 rfl)).mono ?_
    rintro e w6 ⟨rfl, hb⟩
    have S6 := S5.alloc1 hb
    have z6 := hb.size
    simp only [World.size_alloc] at z6
    clear S5 hb
    obtain ⟨x0, x1, x2, x3, x4, x5, _⟩ := facts3 (S6.cells 7 rfl)
    obtain ⟨y0, y1, y2, y3, y4, y5, _⟩ := facts3 (S6.cells 2 rfl)
    go_wp2_with fail
    go_region_held3 (fun w' => w'.cell? ⟨w.heap.size, 0, none⟩ = some (.int .i64 T.t) ∧ w'.cell? ⟨w.heap.size, 1, none⟩ = some (.int .i64 T.p) ∧ w'.cell? ⟨w.heap.size, 2, none⟩ = some (.slice a T.zs.length c) ∧
        w'.cell? ⟨w4.heap.size, 0, none⟩ = some (.int .i64 T.t) ∧ w'.cell? ⟨w4.heap.size, 1, none⟩ = some (.int .i64 T.p) ∧ w'.cell? ⟨w4.heap.size, 2, none⟩ = some (.slice a4 T.zs.length c4))
      (first
        | exact ⟨x0, x1, x2, y0, y1, y2⟩
        | exact S7.six 8 3 rfl rfl
        | exact S8.six 8 3 rfl rfl)
      (first
        | (go_at_call 17; refine (toTable_any T a c _ hs (by exact S6.drew.reads 8 rfl)).mono ?_; rintro e w7 ⟨a7, c7, rfl, ho, hb⟩; have S7 := (S6.drew.below hb).own ho; have z7 : w6.heap.size ≤ w7.heap.size := hb.size; clear ho hb)
        | (go_at_call 19; refine (eqTable_same T a4 a7 c4 c7 _ (by omega) (by exact S7.ints 4 rfl) (by exact S7.ints 0 rfl)).mono ?_; rintro e w8 ⟨rfl, hb⟩; have S8 := S7.below hb; have z8 : w7.heap.size ≤ w8.heap.size := hb.size; clear hb))
    clear x0 x1 x2 x3 x4 x5 y0 y1 y2 y3 y4 y5 S6 S7
    obtain ⟨y0, y1, y2, y3, y4, y5, _⟩ := facts3 (S8.cells 3 rfl)
    go_wp2_with fail
    clear y0 y1 y2 y3 y4 y5
    refine (markTable_any _ T.t T.p a4 c4 T.zs 1 _ (by omega) (by omega) (by omega) (by exact S8.owns 4 rfl)).mono ?_
    rintro e w9 ⟨rfl, ho, hg⟩
    have S9 := S8.markAt hg ho 4 rfl (by simp [Far, It.own, It.box, It.read] <;> omega) (by rw [World.size_alloc]; omega)
    have z9 := hg.size
    clear S8 ho hg
    have t2 : decide ((1 : Int) + (T.zs.length : Int) < 0) = false := by simp; omega
    obtain ⟨x0, x1, x2, x3, x4, x5, _⟩ := facts3 (S9.cells 1 rfl)
    obtain ⟨y0, y1, y2, y3, y4, y5, _⟩ := facts3 (S9.cells 5 rfl)
    go_wp2_with fail
    clear x0 x1 x2 x3 x4 x5 y0 y1 y2 y3 y4 y5
    refine (eqTable_same U a5 a3 c5 c3 _ (by omega) (by exact S9.ints 2 rfl) (by exact S9.ints 6 rfl)).mono ?_
    rintro e w10 ⟨rfl, hb⟩
    have S10 := S9.below hb
    clear S9 hb
    obtain ⟨x0, x1, x2, x3, x4, x5, _⟩ := facts3 (S10.cells 1 rfl)
    go_wp2_with fail
    clear x0 x1 x2 x3 x4 x5
    refine (markTable_any _ U.t U.p a5 c5 U.zs 1 _ (by omega) (by omega) (by omega) (by exact S10.owns 2 rfl)).mono ?_
    rintro e w11 ⟨rfl, ho, hg⟩
    have S11 := S10.markAt hg ho 2 rfl (by simp [Far, It.own, It.box, It.read] <;> omega) (by rw [World.size_alloc]; omega)
    clear S10 ho hg
    have t3 : decide ((1 : Int) + (U.zs.length : Int) < 0) = false := by simp; omega
    obtain ⟨x0, x1, x2, x3, x4, x5, _⟩ := facts3 (S11.cells 1 rfl)
    go_wp2_with fail
    clear x0 x1 x2 x3 x4 x5
    refine (heldTable_marks U.t U.p a5 U.zs.length c5 _ (by omega) (by exact S11.ints 2 rfl)).mono ?_
    rintro e w12 ⟨rfl, hb⟩
    have S12 := S11.below hb
    clear S11 hb
    obtain ⟨x0, x1, x2, x3, x4, x5, _⟩ := facts3 (S12.cells 8 rfl)
    go_wp2_with fail
    clear x0 x1 x2 x3 x4 x5
    refine (toTable_any T a c _ hs (by exact S12.reads 9 rfl)).mono ?_
    rintro e w13 ⟨a13, c13, rfl, ho, hb⟩
    have S13 := (S12.below hb).own ho
    clear S12 ho hb
    go_wp2_with fail
    refine (HI.out a13 c13 _ (by exact S13.ints 0 rfl) (hL.below S13.old hL.pos)).mono ?_
    rintro e w14 ⟨a14, c14, rfl, ho, hb⟩
    have S14 := (S13.below hb).own ho
    clear S13 ho hb
    obtain ⟨x0, x1, x2, x3, x4, x5, _⟩ := facts3 (S14.cells 7 rfl)
    go_wp2_with fail
    clear x0 x1 x2 x3 x4 x5
    refine (eqTable_same U a14 a3 c14 c3 _ (by omega) (by exact (S14.alloc _ 25).ints 1 rfl) (by exact (S14.alloc _ 25).ints 9 rfl)).mono ?_
    rintro e w15 ⟨rfl, hb⟩
    have S15 := S14.alloc1 hb
    clear S14 hb
    obtain ⟨x0, x1, x2, x3, x4, x5, _⟩ := facts3 (S15.cells 4 rfl)
    go_wp2_with fail
    clear x0 x1 x2 x3 x4 x5
    refine (heldTable_marks U.t U.p a5 U.zs.length c5 _ (by omega) (by exact S15.ints 5 rfl)).mono ?_
    rintro e w16 ⟨rfl, hb⟩
    have S16 := S15.below hb
    clear S15 hb
    go_wp2_with fail
    go_ret
    exact ⟨rfl, S16.old⟩
  · obtain ⟨x0, x1, x2, x3, x4, x5, xz⟩ := facts3 (S0.cells 0 rfl)
    go_enter Tryz.func5, Tryz.ntmps5
    go_wp2_with fail
    clear x0 x1 x2 x3 x4 x5 xz
    refine (szTable_big T.t T.p a T.zs.length c 1048576 _ hx (by omega) (by omega) (by omega)).mono ?_
    rintro e w1 ⟨rfl, hb⟩
    go_wp2
    go_ret
    exact ⟨rfl, (S0.below hb).old⟩

end Go.Proofs.YtflfmoiopaohiaaGreatDoor

/-
  The exact law of FairMiss: the walk.
-/
import Derived.Test.YtpncpeokdcolpaaGreatDoorLow
import Derived.Test.YtpncpeokdcolpaaGreatDoorFairMissI
namespace Go.Proofs.YtpncpeokdcolpaaGreatDoor
open Go.RowKit

set_option maxHeartbeats 2000000 in
theorem walkFnExactFairMiss (w : World) (T : Tab) (a : Option Addr) (c : Nat) (h : TabIn w T a) (home : Int) (_hhome : (Lit.int .i64 home).wf = true) (hL : Laid w) :
    Calls Tryz.prog 3 #[tabV T a c, .int .i64 home] w fun e w' => e = .returned (.bool true) ∧ Below w.heap.size w w' := by
  have hx := h.len
  have S0 := ((St.start w).read h.at_).alloc #[.int .i64 T.t, .int .i64 T.p, .slice a T.zs.length c] 24
  by_cases hs : T.zs.length ≤ 1048576
  · have t1 : decide ((1048576 : Int) - (T.zs.length : Int) < 0) = false := by simp; omega
    obtain ⟨x0, x1, x2, x3, x4, x5, xz⟩ := facts3 (S0.cells 0 rfl)
    go_enter Tryz.func3, Tryz.ntmps3
    go_wp2_with fail
    clear x0 x1 x2 x3 x4 x5 xz
    refine (szTable_ok T.t T.p a T.zs.length c 1048576 _ (by omega) (by omega)).mono ?_
    rintro e w1 ⟨rfl, hb⟩
    have S1 := S0.below hb
    clear S0 hb
    obtain ⟨x0, x1, x2, x3, x4, x5, xz⟩ := facts3 (S1.cells 0 rfl)
    go_wp2_with fail
    clear x0 x1 x2 x3 x4 x5 xz
    refine (toTable_any T a c _ hs (by exact S1.reads 1 rfl)).mono ?_
    rintro e w2 ⟨a2, c2, rfl, ho, hb⟩
    have S2 := (S1.below hb).own ho
    clear S1 hb ho
    obtain ⟨x0, x1, x2, x3, x4, x5, xz⟩ := facts3 (S2.cells 1 rfl)
    go_wp2_with fail
    clear x0 x1 x2 x3 x4 x5 xz
    refine (specFairMiss_any T a2 c2 home _ hx (by exact S2.ints 0 rfl)).mono ?_
    rintro e w3 ⟨rfl, hb⟩
    have S3 := S2.below hb
    clear S2 hb
    obtain ⟨x0, x1, x2, x3, x4, x5, xz⟩ := facts3 (S3.cells 1 rfl)
    go_wp2_with fail
    clear x0 x1 x2 x3 x4 x5 xz
    refine (toTable_any T a c _ hs (by exact S3.reads 2 rfl)).mono ?_
    rintro e w4 ⟨a4, c4, rfl, ho, hb⟩
    have S4 := (S3.below hb).own ho
    clear S3 hb ho
    obtain ⟨x0, x1, x2, x3, x4, x5, xz⟩ := facts3 (S4.cells 2 rfl)
    go_wp2_with fail
    clear x0 x1 x2 x3 x4 x5 xz
    refine (FairMiss_any T a4 c4 home _ hx (by exact (S4.alloc _ 27).ints 1 rfl) (hL.below (S4.alloc _ _).old hL.pos)).mono ?_
    rintro e w5 ⟨rfl, hb⟩
    have S5 := S4.alloc1 hb
    clear S4 hb
    obtain ⟨x0, x1, x2, x3, x4, x5, xz⟩ := facts3 (S5.cells 3 rfl)
    obtain ⟨y0, y1, y2, y3, y4, y5, yz⟩ := facts3 (S5.cells 0 rfl)
    go_wp2_with fail
    go_region_held3 (fun w' => w'.cell? ⟨w.heap.size, 0, none⟩ = some (.int .i64 T.t) ∧ w'.cell? ⟨w.heap.size, 1, none⟩ = some (.int .i64 T.p) ∧ w'.cell? ⟨w.heap.size, 2, none⟩ = some (.slice a T.zs.length c) ∧
        w'.cell? ⟨w4.heap.size, 0, none⟩ = some (.int .i64 T.t) ∧ w'.cell? ⟨w4.heap.size, 1, none⟩ = some (.int .i64 T.p) ∧ w'.cell? ⟨w4.heap.size, 2, none⟩ = some (.slice a4 T.zs.length c4))
      (first
        | exact ⟨x0, x1, x2, y0, y1, y2⟩
        | exact keep6 hb xz yz ⟨x0, x1, x2, y0, y1, y2⟩
        | exact keep6 hb7 (Nat.lt_of_lt_of_le xz hb.size) (Nat.lt_of_lt_of_le yz hb.size) (keep6 hb xz yz ⟨x0, x1, x2, y0, y1, y2⟩))
      (first
        | (go_at_call 10; refine (toTable_any T a c _ hs (by exact S5.drew.reads 4 rfl)).mono ?_; rintro e w6 ⟨a6, c6, rfl, ho, hb⟩)
        | (go_at_call 12; refine (eqTable_same T a4 a6 c4 c6 _ (by omega) (by exact (S5.drew.below hb).ints 1 rfl) (by exact ho.ints)).mono ?_; rintro e w7 ⟨rfl, hb7⟩))
    go_wp2
    go_ret
    exact ⟨rfl, ((S5.drew.below hb).below hb7).old⟩
  · obtain ⟨x0, x1, x2, x3, x4, x5, xz⟩ := facts3 (S0.cells 0 rfl)
    go_enter Tryz.func3, Tryz.ntmps3
    go_wp2_with fail
    clear x0 x1 x2 x3 x4 x5 xz
    refine (szTable_big T.t T.p a T.zs.length c 1048576 _ hx (by omega) (by omega) (by omega)).mono ?_
    rintro e w1 ⟨rfl, hb⟩
    go_wp2
    go_ret
    exact ⟨rfl, (S0.below hb).old⟩

end Go.Proofs.YtpncpeokdcolpaaGreatDoor

/-
  The exact law of FormatNest: the walk.
-/
import Derived.Test.YtojmjhojgfopaaaDoorNestX
import Derived.Test.YtojmjhojgfopaaaDoorNestT
namespace Go.Proofs.YtojmjhojgfopaaaDoor
open Go.RowKit

set_option maxHeartbeats 4000000 in
theorem walkFnExactFormatNest (w : World) (N : Nst) (a : Option Addr) (c : Nat) (h : NstIn w N a) :
    Calls Tryd.prog 3 #[nstV N a c] w fun e w' => e = .returned (.bool true) ∧ Below w.heap.size w w' := by
  have hx := h.len
  have S0 := ((St.start w).read h.at_).alloc (nstC N a c) 24
  have HS := Lib.hid fun (a : Option Addr) (c : Nat) (W : World) (h1 : IntsAt W a N.zs) => specFormatNest_any N a c W hx h1
  have HI := Lib.hid fun (a : Option Addr) (c : Nat) (W : World) (h1 : IntsAt W a N.zs) => FormatNest_any N a c W hx h1
  generalize fmtN N = y0 at HS HI
  by_cases hs : N.zs.length ≤ 1048576
  · have t1 : decide ((1048576 : Int) - (N.zs.length : Int) < 0) = false := by simp; omega
    obtain ⟨x0, x1, x2, x3, x4, xz⟩ := facts5 (S0.cells 0 rfl)
    go_enter Tryd.func3, Tryd.ntmps3
    go_wp2_with fail
    clear x0 x1 x2 x3 x4 xz
    refine (szNest_ok N a c 1048576 _ (by omega) (by omega)).mono ?_
    rintro e w1 ⟨rfl, hb⟩
    have S1 := S0.below hb
    have z1 : w.heap.size + 1 ≤ w1.heap.size := by have := hb.size; simpa using this
    clear S0 hb
    obtain ⟨x0, x1, x2, x3, x4, xz⟩ := facts5 (S1.cells 0 rfl)
    go_wp2_with fail
    clear x0 x1 x2 x3 x4 xz
    refine (toNest_any N a c _ hs (by exact S1.reads 1 rfl)).mono ?_
    rintro e w2 ⟨a2, c2, rfl, ho, hb⟩
    have S2 := (S1.below hb).own ho
    have z2 := hb.size
    clear S1 hb ho
    obtain ⟨x0, x1, x2, x3, x4, xz⟩ := facts5 (S2.cells 1 rfl)
    go_wp2_with fail
    clear x0 x1 x2 x3 x4 xz
    refine (HS.out a2 c2 _ (by exact S2.ints 0 rfl)).mono ?_
    rintro e w3 ⟨rfl, hb⟩
    have S3 := S2.below hb
    clear S2 hb
    obtain ⟨x0, x1, x2, x3, x4, xz⟩ := facts5 (S3.cells 1 rfl)
    go_wp2_with fail
    clear x0 x1 x2 x3 x4 xz
    refine (toNest_any N a c _ hs (by exact S3.reads 2 rfl)).mono ?_
    rintro e w4 ⟨a4, c4, rfl, ho, hb⟩
    have S4 := ((S3.below hb).own ho).alloc (nstC N a4 c4) 27
    clear S3 hb ho
    obtain ⟨x0, x1, x2, x3, x4, xz⟩ := facts5 (S4.cells 0 rfl)
    go_wp2_with fail
    clear x0 x1 x2 x3 x4 xz
    refine (HI.out a4 c4 _ (by exact S4.ints 1 rfl)).mono ?_
    rintro e w5 ⟨rfl, hb⟩
    have S5 := S4.below hb
    clear S4 hb
    have X0 := S5.ten 3 0 rfl rfl
    go_wp2_with fail
    go_region_held3 (fun w' => w'.cell? ⟨w.heap.size, 0, none⟩ = some (.int .i64 N.t) ∧ w'.cell? ⟨w.heap.size, 1, none⟩ = some (.int .i64 N.p) ∧ w'.cell? ⟨w.heap.size, 2, none⟩ = some (.int .i64 N.m) ∧ w'.cell? ⟨w.heap.size, 3, none⟩ = some (.int .i64 N.g) ∧ w'.cell? ⟨w.heap.size, 4, none⟩ = some (.slice a N.zs.length c) ∧ w'.cell? ⟨w4.heap.size, 0, none⟩ = some (.int .i64 N.t) ∧ w'.cell? ⟨w4.heap.size, 1, none⟩ = some (.int .i64 N.p) ∧ w'.cell? ⟨w4.heap.size, 2, none⟩ = some (.int .i64 N.m) ∧ w'.cell? ⟨w4.heap.size, 3, none⟩ = some (.int .i64 N.g) ∧ w'.cell? ⟨w4.heap.size, 4, none⟩ = some (.slice a4 N.zs.length c4))
      (first
        | exact X0
        | exact X1
        | exact X2)
      (first
        | (go_at_call 6; refine (toNest_any N a c _ hs (by exact S5.drew.reads 4 rfl)).mono ?_; rintro e w6 ⟨a6, c6, rfl, ho, hb⟩; have S6 := (S5.drew.below hb).own ho; have X1 := S6.ten 4 1 rfl rfl)
        | (go_at_call 8; refine (eqNest_same N a4 a6 c4 c6 _ (by omega) (by exact S6.ints 2 rfl) (by exact S6.ints 0 rfl)).mono ?_; rintro e w7 ⟨rfl, hb7⟩; have S7 := S6.below hb7; have X2 := S7.ten 4 1 rfl rfl))
    clear X0 X1 X2
    go_wp2
    go_ret
    exact ⟨rfl, S7.old⟩
  · obtain ⟨x0, x1, x2, x3, x4, xz⟩ := facts5 (S0.cells 0 rfl)
    go_enter Tryd.func3, Tryd.ntmps3
    go_wp2_with fail
    clear x0 x1 x2 x3 x4 xz
    refine (szNest_big N a c 1048576 _ hx (by omega) (by omega) (by omega)).mono ?_
    rintro e w1 ⟨rfl, hb⟩
    go_wp2
    go_ret
    exact ⟨rfl, (S0.below hb).old⟩

end Go.Proofs.YtojmjhojgfopaaaDoor

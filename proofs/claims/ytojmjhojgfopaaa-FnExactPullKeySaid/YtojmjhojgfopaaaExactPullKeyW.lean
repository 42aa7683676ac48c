/-
  The exact law of PullKey: the walk.
-/
import Derived.Test.YtojmjhojgfopaaaNestX
import Derived.Test.YtojmjhojgfopaaaNestP
namespace Go.Proofs.Ytojmjhojgfopaaa
open Go.RowKit

set_option maxHeartbeats 4000000 in
theorem walkFnExactPullKey (w : World) (N : Nst) (a : Option Addr) (c : Nat) (h : NstIn w N a) (key : Int) (_hkey : (Lit.int .i64 key).wf = true) :
    Calls Try.prog 10 #[nstV N a c, .int .i64 key] w fun e w' => e = .returned (.bool true) ∧ Below w.heap.size w w' := by
  have hx := h.len
  have S0 := ((St.start w).read h.at_).alloc (nstC N a c) 37
  have HS := Lib.hid fun (a : Option Addr) (c : Nat) (W : World) (h1 : IntsAt W a N.zs) => specPullKey_any N a c key W hx h1
  have HI := Lib.hid fun (a : Option Addr) (c : Nat) (W : World) (h1 : IntsAt W a N.zs) => PullKey_any N a c key W hx h1
  unfold NstOk at HS HI
  have hxl := pull_len N key
  generalize pullN N key = U at HS HI hxl
  generalize hasN N key = ok at HS HI
  by_cases hs : N.zs.length ≤ 1048576
  · have t1 : decide ((1048576 : Int) - (N.zs.length : Int) < 0) = false := by simp; omega
    obtain ⟨x0, x1, x2, x3, x4, xz⟩ := facts5 (S0.cells 0 rfl)
    go_enter Try.func10, Try.ntmps10
    go_wp2_with fail
    clear x0 x1 x2 x3 x4 xz
    refine (szNest_ok N a c 1048576 _ (by omega) (by omega)).mono ?_
    rintro e w1 ⟨rfl, hb⟩
    have S1 := S0.below hb
    have z1 : w.heap.size + 1 ≤ w1.heap.size := by have := hb.size; simpa using this
    clear S0 hb
    obtain ⟨x0, x1, x2, x3, x4, xz⟩ := facts5 (S1.cells 0 rfl)
    go_wp2_with fail
    clear x0 x1 x2 x3 x4 xz
    refine (toNest_any N a c _ hs (by exact S1.reads 1 rfl)).mono ?_
    rintro e w2 ⟨a2, c2, rfl, ho, hb⟩
    have S2 := (S1.below hb).own ho
    have z2 := hb.size
    clear S1 hb ho
    go_wp2_with fail
    refine (HS.out a2 c2 _ (by exact S2.ints 0 rfl)).mono ?_
    rintro e w3 ⟨a3, c3, rfl, ho, hb⟩
    have S3 := ((S2.below hb).own ho).alloc (nstC U a3 c3) 25
    have z3 := hb.size
    clear S2 hb ho
    obtain ⟨x0, x1, x2, x3, x4, _⟩ := facts5 (S3.cells 3 rfl)
    go_wp2_with fail
    clear x0 x1 x2 x3 x4
    refine (toNest_any N a c _ hs (by exact S3.reads 4 rfl)).mono ?_
    rintro e w4 ⟨a4, c4, rfl, ho, hb⟩
    have S4 := ((S3.below hb).own ho).alloc (nstC N a4 c4) 25
    have z4 := hb.size
    simp only [World.size_alloc] at z4 S4
    clear S3 hb ho
    obtain ⟨x0, x1, x2, x3, x4, _⟩ := facts5 (S4.cells 0 rfl)
    go_wp2_with fail
    clear x0 x1 x2 x3 x4
    refine (HI.out a4 c4 _ (by exact S4.ints 1 rfl)).mono ?_
    rintro e w5 ⟨a5, c5, rfl, ho, hb⟩
    have S5 := ((S4.below hb).own ho).alloc (nstC U a5 c5) 25
    have z5 := hb.size
    simp only [World.size_alloc] at z5 S5
    clear S4 hb ho
    obtain ⟨x0, x1, x2, x3, x4, _⟩ := facts5 (S5.cells 0 rfl)
    obtain ⟨y0, y1, y2, y3, y4, _⟩ := facts5 (S5.cells 4 rfl)
    go_wp2_with fail
    clear x0 x1 x2 x3 x4 y0 y1 y2 y3 y4
    refine (eqNest_same U a5 a3 c5 c3 _ (by omega) (by exact S5.ints 1 rfl) (by exact S5.ints 5 rfl)).mono ?_
    rintro e w6 ⟨rfl, hb⟩
    have S6 := S5.below hb
    have z6 := hb.size
    simp only [World.size_alloc] at z6
    clear S5 hb
    have X0 := S6.ten 7 2 rfl rfl
    go_wp2_with fail
    go_region_held3 (fun w' => w'.cell? ⟨w.heap.size, 0, none⟩ = some (.int .i64 N.t) ∧ w'.cell? ⟨w.heap.size, 1, none⟩ = some (.int .i64 N.p) ∧ w'.cell? ⟨w.heap.size, 2, none⟩ = some (.int .i64 N.m) ∧ w'.cell? ⟨w.heap.size, 3, none⟩ = some (.int .i64 N.g) ∧ w'.cell? ⟨w.heap.size, 4, none⟩ = some (.slice a N.zs.length c) ∧ w'.cell? ⟨w4.heap.size, 0, none⟩ = some (.int .i64 N.t) ∧ w'.cell? ⟨w4.heap.size, 1, none⟩ = some (.int .i64 N.p) ∧ w'.cell? ⟨w4.heap.size, 2, none⟩ = some (.int .i64 N.m) ∧ w'.cell? ⟨w4.heap.size, 3, none⟩ = some (.int .i64 N.g) ∧ w'.cell? ⟨w4.heap.size, 4, none⟩ = some (.slice a4 N.zs.length c4))
      (first
        | exact X0
        | exact X1
        | exact X2)
      (first
        | (go_at_call 21; refine (toNest_any N a c _ hs (by exact S6.drew.reads 8 rfl)).mono ?_; rintro e w7 ⟨a7, c7, rfl, ho, hb⟩; have S7 := (S6.drew.below hb).own ho; have z7 : w6.heap.size ≤ w7.heap.size := hb.size; have X1 := S7.ten 8 3 rfl rfl; clear ho hb)
        | (go_at_call 22; refine (eqNest_same N a4 a7 c4 c7 _ (by omega) (by exact S7.ints 4 rfl) (by exact S7.ints 0 rfl)).mono ?_; rintro e w8 ⟨rfl, hb⟩; have S8 := S7.below hb; have z8 : w7.heap.size ≤ w8.heap.size := hb.size; have X2 := S8.ten 8 3 rfl rfl; clear hb))
    clear X0 X1 X2 S6 S7
    obtain ⟨y0, y1, y2, y3, y4, _⟩ := facts5 (S8.cells 3 rfl)
    go_wp2_with fail
    clear y0 y1 y2 y3 y4
    refine (markNest_any _ N a4 c4 1 _ (by omega) (by omega) (by omega) (by exact S8.owns 4 rfl)).mono ?_
    rintro e w9 ⟨rfl, ho, hg⟩
    have S9 := S8.markAt hg ho 4 rfl (by simp [Far, It.own, It.box, It.read] <;> omega) (by omega)
    have z9 := hg.size
    clear S8 ho hg
    have t2 : decide ((1 : Int) + (N.zs.length : Int) < 0) = false := by simp; omega
    obtain ⟨x0, x1, x2, x3, x4, _⟩ := facts5 (S9.cells 1 rfl)
    obtain ⟨y0, y1, y2, y3, y4, _⟩ := facts5 (S9.cells 5 rfl)
    go_wp2_with fail
    clear x0 x1 x2 x3 x4 y0 y1 y2 y3 y4
    refine (eqNest_same U a5 a3 c5 c3 _ (by omega) (by exact S9.ints 2 rfl) (by exact S9.ints 6 rfl)).mono ?_
    rintro e w10 ⟨rfl, hb⟩
    have S10 := S9.below hb
    clear S9 hb
    obtain ⟨x0, x1, x2, x3, x4, _⟩ := facts5 (S10.cells 1 rfl)
    go_wp2_with fail
    clear x0 x1 x2 x3 x4
    refine (markNest_any _ U a5 c5 1 _ (by omega) (by omega) (by omega) (by exact S10.owns 2 rfl)).mono ?_
    rintro e w11 ⟨rfl, ho, hg⟩
    have S11 := S10.markAt hg ho 2 rfl (by simp [Far, It.own, It.box, It.read] <;> omega) (by omega)
    clear S10 ho hg
    have t3 : decide ((1 : Int) + (U.zs.length : Int) < 0) = false := by simp; omega
    obtain ⟨x0, x1, x2, x3, x4, _⟩ := facts5 (S11.cells 1 rfl)
    go_wp2_with fail
    clear x0 x1 x2 x3 x4
    refine (heldNest_marks U.t U.p U.m U.g a5 U.zs.length c5 _ (by omega) (by exact S11.ints 2 rfl)).mono ?_
    rintro e w12 ⟨rfl, hb⟩
    have S12 := S11.below hb
    clear S11 hb
    obtain ⟨x0, x1, x2, x3, x4, _⟩ := facts5 (S12.cells 8 rfl)
    go_wp2_with fail
    clear x0 x1 x2 x3 x4
    refine (toNest_any N a c _ hs (by exact S12.reads 9 rfl)).mono ?_
    rintro e w13 ⟨a13, c13, rfl, ho, hb⟩
    have S13 := (S12.below hb).own ho
    clear S12 ho hb
    go_wp2_with fail
    refine (HI.out a13 c13 _ (by exact S13.ints 0 rfl)).mono ?_
    rintro e w14 ⟨a14, c14, rfl, ho, hb⟩
    have S14 := ((S13.below hb).own ho).alloc (nstC U a14 c14) 25
    clear S13 ho hb
    obtain ⟨x0, x1, x2, x3, x4, _⟩ := facts5 (S14.cells 0 rfl)
    obtain ⟨y0, y1, y2, y3, y4, _⟩ := facts5 (S14.cells 8 rfl)
    go_wp2_with fail
    clear x0 x1 x2 x3 x4 y0 y1 y2 y3 y4
    refine (eqNest_same U a14 a3 c14 c3 _ (by omega) (by exact S14.ints 1 rfl) (by exact S14.ints 9 rfl)).mono ?_
    rintro e w15 ⟨rfl, hb⟩
    have S15 := S14.below hb
    clear S14 hb
    obtain ⟨x0, x1, x2, x3, x4, _⟩ := facts5 (S15.cells 4 rfl)
    go_wp2_with fail
    clear x0 x1 x2 x3 x4
    refine (heldNest_marks U.t U.p U.m U.g a5 U.zs.length c5 _ (by omega) (by exact S15.ints 5 rfl)).mono ?_
    rintro e w16 ⟨rfl, hb⟩
    have S16 := S15.below hb
    clear S15 hb
    go_wp2_with fail
    go_ret
    exact ⟨rfl, S16.old⟩
  · obtain ⟨x0, x1, x2, x3, x4, xz⟩ := facts5 (S0.cells 0 rfl)
    go_enter Try.func10, Try.ntmps10
    go_wp2_with fail
    clear x0 x1 x2 x3 x4 xz
    refine (szNest_big N a c 1048576 _ hx (by omega) (by omega) (by omega)).mono ?_
    rintro e w1 ⟨rfl, hb⟩
    go_wp2
    go_ret
    exact ⟨rfl, (S0.below hb).old⟩

end Go.Proofs.Ytojmjhojgfopaaa

/-
  The exact law of FindIn: the walk.
-/
import Derived.Test.YtjhdlbcgnhkbhaaGreatDoorMoveF
import Derived.Test.YtjhdlbcgnhkbhaaGreatDoorMoveFI
namespace Go.Proofs.YtjhdlbcgnhkbhaaGreatDoor
open Go.RowKit

set_option maxHeartbeats 4000000 in
theorem walkFnExactFindIn (w : World) (M : Mov) (a1 : Option Addr) (c1 : Nat) (a2 : Option Addr) (c2 : Nat) (h : MovIn w M a1 a2) (key : Int) (_hkey : (Lit.int .i64 key).wf = true) (hL : Laid w) :
    Calls Tryz.prog 3 #[movV M a1 c1 a2 c2, .int .i64 key] w fun e w' => e = .returned (.bool true) ∧ Below w.heap.size w w' := by
  have hx1 := h.len1
  have hx2 := h.len2
  have S0 := (((St.start w).read h.at1).read h.at2).alloc (movC M a1 c1 a2 c2) 26
  have HS := Lib.hid fun (b1 : Option Addr) (d1 : Nat) (b2 : Option Addr) (d2 : Nat) (W : World) (q1 : IntsAt W b1 M.o.zs) (q2 : IntsAt W b2 M.n.zs) => specFindIn_any M b1 d1 b2 d2 key W hx1 hx2 q1 q2
  have HI := Lib.hid fun (b1 : Option Addr) (d1 : Nat) (b2 : Option Addr) (d2 : Nat) (W : World) (hc : M.o.zs.length ≤ d1) (q1 : IntsAt W b1 M.o.zs) (q2 : IntsAt W b2 M.n.zs) (hL : Laid W) => FindIn_any M b1 d1 b2 d2 key W hx1 hx2 hc q1 q2 hL
  unfold FindRes at HS HI
  generalize whereS M key = sv at HS HI
  generalize fndSlot M key = sl at HS HI
  generalize dropMok M key = ok at HS HI
  by_cases hs : M.o.zs.length + M.n.zs.length ≤ 1048576
  · have t1 : decide ((1048576 : Int) - (M.o.zs.length : Int) - (M.n.zs.length : Int) < 0) = false := by simp; omega
    obtain ⟨x0, x1, x2, x3, x4, x5, x6, xz⟩ := facts7 (S0.cells 0 rfl)
    go_enter Tryz.func3, Tryz.ntmps3
    go_wp2_with fail
    clear x0 x1 x2 x3 x4 x5 x6 xz
    refine (szMove_ok M a1 c1 a2 c2 1048576 _ (by omega) (by omega)).mono ?_
    rintro e w1 ⟨rfl, hb⟩
    have S1 := S0.below hb
    have z1 : w.heap.size + 1 ≤ w1.heap.size := by have := hb.size; simpa using this
    clear S0 hb
    obtain ⟨x0, x1, x2, x3, x4, x5, x6, xz⟩ := facts7 (S1.cells 0 rfl)
    go_wp2_with fail
    clear x0 x1 x2 x3 x4 x5 x6 xz
    refine (toMove_any M a1 c1 a2 c2 _ (by omega) (by omega) (by exact S1.reads 2 rfl) (by exact S1.reads 1 rfl)).mono ?_
    rintro e w2 ⟨b1, d1, b2, d2, mid, rfl, hd, hm, R⟩
    have S2 := S1.more R
    have z2 := R.size
    have y2 : mid ≤ w2.heap.size := (R.all _ (List.mem_cons_of_mem _ (List.mem_cons_self ..))).1
    clear S1 R
    simp only [List.cons_append, List.nil_append] at S2
    obtain ⟨x0, x1, x2, x3, x4, x5, x6, xz⟩ := facts7 (S2.cells 2 rfl)
    go_wp2_with fail
    clear x0 x1 x2 x3 x4 x5 x6 xz
    refine (HS.out b1 d1 b2 d2 _ (by exact S2.ints 1 rfl) (by exact S2.ints 0 rfl)).mono ?_
    rintro e w3 ⟨rfl, hb⟩
    have S3 := S2.below hb
    have z3 := hb.size
    clear S2 hb
    obtain ⟨x0, x1, x2, x3, x4, x5, x6, xz⟩ := facts7 (S3.cells 2 rfl)
    go_wp2_with fail
    clear x0 x1 x2 x3 x4 x5 x6 xz
    refine (toMove_any M a1 c1 a2 c2 _ (by omega) (by omega) (by exact S3.reads 4 rfl) (by exact S3.reads 3 rfl)).mono ?_
    rintro e w4 ⟨e1, f1, e2, f2, mid4, rfl, hd4, hm4, R⟩
    have S4 := (S3.more R).alloc (movC M e1 f1 e2 f2) 32
    have z4 := R.size
    clear S3 R
    simp only [List.cons_append, List.nil_append] at S4
    obtain ⟨x0, x1, x2, x3, x4, x5, x6, xz⟩ := facts7 (S4.cells 0 rfl)
    go_wp2_with fail
    clear x0 x1 x2 x3 x4 x5 x6 xz
    refine (HI.out e1 f1 e2 f2 _ hd4 (by exact S4.ints 2 rfl) (by exact S4.ints 1 rfl) (by exact hL.below S4.old hL.pos)).mono ?_
    rintro e w5 ⟨rfl, hb⟩
    have S5 := S4.below hb
    have z5 := hb.size
    simp only [World.size_alloc] at z5
    clear S4 hb
    have X0 := S5.fourteen 5 0 rfl rfl
    go_wp2_with fail
    go_region_held3 (fun w' => w'.cell? ⟨w.heap.size, 0, none⟩ = some (.int .i64 M.o.t) ∧ w'.cell? ⟨w.heap.size, 1, none⟩ = some (.int .i64 M.o.p) ∧ w'.cell? ⟨w.heap.size, 2, none⟩ = some (.slice a1 M.o.zs.length c1) ∧ w'.cell? ⟨w.heap.size, 3, none⟩ = some (.int .i64 M.n.t) ∧ w'.cell? ⟨w.heap.size, 4, none⟩ = some (.int .i64 M.n.p) ∧ w'.cell? ⟨w.heap.size, 5, none⟩ = some (.slice a2 M.n.zs.length c2) ∧ w'.cell? ⟨w.heap.size, 6, none⟩ = some (.int .i64 M.x) ∧ w'.cell? ⟨w4.heap.size, 0, none⟩ = some (.int .i64 M.o.t) ∧ w'.cell? ⟨w4.heap.size, 1, none⟩ = some (.int .i64 M.o.p) ∧ w'.cell? ⟨w4.heap.size, 2, none⟩ = some (.slice e1 M.o.zs.length f1) ∧ w'.cell? ⟨w4.heap.size, 3, none⟩ = some (.int .i64 M.n.t) ∧ w'.cell? ⟨w4.heap.size, 4, none⟩ = some (.int .i64 M.n.p) ∧ w'.cell? ⟨w4.heap.size, 5, none⟩ = some (.slice e2 M.n.zs.length f2) ∧ w'.cell? ⟨w4.heap.size, 6, none⟩ = some (.int .i64 M.x))
      (first
        | exact X0
        | exact X1
        | exact X2)
      (first
        | (go_at_call 8; refine (toMove_any M a1 c1 a2 c2 _ (by omega) (by omega) (by exact S5.drew.reads 7 rfl) (by exact S5.drew.reads 6 rfl)).mono ?_; rintro e wa ⟨s1, s2, s3, s4, mid9, rfl, hd9, hm9, R9⟩; have SA := S5.drew.more R9; have X1 := SA.fourteen 7 2 rfl rfl)
        | (go_at_call 10; refine (eqMove_same M e1 f1 e2 f2 s1 s2 s3 s4 _ (by omega) (by omega) (by exact SA.ints 4 rfl) (by exact SA.ints 3 rfl) (by exact SA.ints 1 rfl) (by exact SA.ints 0 rfl)).mono ?_; rintro e wb ⟨rfl, hb9⟩; have SB := SA.below hb9; have X2 := SB.fourteen 7 2 rfl rfl))
    clear X0 X1 X2
    go_wp2
    go_ret
    exact ⟨rfl, SB.old⟩
  · obtain ⟨x0, x1, x2, x3, x4, x5, x6, xz⟩ := facts7 (S0.cells 0 rfl)
    go_enter Tryz.func3, Tryz.ntmps3
    go_wp2_with fail
    clear x0 x1 x2 x3 x4 x5 x6 xz
    refine (szMove_big M a1 c1 a2 c2 1048576 _ hx1 hx2 (by omega) (by omega) (by omega)).mono ?_
    rintro e w1 ⟨rfl, hb⟩
    go_wp2
    go_ret
    exact ⟨rfl, (S0.below hb).old⟩

end Go.Proofs.YtjhdlbcgnhkbhaaGreatDoor

/-
  The exact law of PutIn: the walk.
-/
import Derived.Test.YtjhdlbcgnhkbhaaGreatMoveF
import Derived.Test.YtjhdlbcgnhkbhaaGreatMoveH
import Derived.Test.YtjhdlbcgnhkbhaaGreatMovePS
import Derived.Test.YtjhdlbcgnhkbhaaGreatMovePI
namespace Go.Proofs.YtjhdlbcgnhkbhaaGreat
open Go.RowKit

theorem putMT_len (M : Mov) (key : Int) : (putMT M key).o.zs.length ≤ 16 ∧ (putMT M key).n.zs.length ≤ 16 := by
  cases h : putMok M key
  · rw [putM_no h]; exact ⟨by simp [zeroM], by simp [zeroM]⟩
  · rw [putM_yes h]
    simp only [putMok, Bool.and_eq_true] at h
    obtain ⟨_, _, _, _, _, hv1, hv2⟩ := movB_parts h.2.2.2
    exact ⟨(valid_facts hv1).1.2, (valid_facts hv2).1.2⟩

set_option maxHeartbeats 8000000 in
theorem walkFnExactPutIn (w : World) (M : Mov) (a1 : Option Addr) (c1 : Nat) (a2 : Option Addr) (c2 : Nat) (h : MovIn w M a1 a2) (key : Int) (_hkey : (Lit.int .i64 key).wf = true) :
    Calls Tryz.prog 5 #[movV M a1 c1 a2 c2, .int .i64 key] w fun e w' => e = .returned (.bool true) ∧ Below w.heap.size w w' := by
  have hx1 := h.len1
  have hx2 := h.len2
  have S0 := (((St.start w).read h.at1).read h.at2).alloc (movC M a1 c1 a2 c2) 38
  have HS := Lib.hid fun (b1 : Option Addr) (d1 : Nat) (b2 : Option Addr) (d2 : Nat) (W : World) (q1 : IntsAt W b1 M.o.zs) (q2 : IntsAt W b2 M.n.zs) => specPutIn_any M b1 d1 b2 d2 key W hx1 hx2 q1 q2
  have HI := Lib.hid fun (b1 : Option Addr) (d1 : Nat) (b2 : Option Addr) (d2 : Nat) (W : World) (hc : M.o.zs.length ≤ d1) (q1 : IntsAt W b1 M.o.zs) (q2 : IntsAt W b2 M.n.zs) => PutIn_any M b1 d1 b2 d2 key W hx1 hx2 hc q1 q2
  obtain ⟨xl1, xl2⟩ := putMT_len M key
  generalize putMT M key = X at HS HI xl1 xl2
  generalize putMok M key = ok at HS HI
  by_cases hs : M.o.zs.length + M.n.zs.length ≤ 1048576
  · have t1 : decide ((1048576 : Int) - (M.o.zs.length : Int) - (M.n.zs.length : Int) < 0) = false := by simp; omega
    obtain ⟨x0, x1, x2, x3, x4, x5, x6, xz⟩ := facts7 (S0.cells 0 rfl)
    go_enter Tryz.func5, Tryz.ntmps5
    go_wp2_with fail
    clear x0 x1 x2 x3 x4 x5 x6 xz
    refine (szMove_ok M a1 c1 a2 c2 1048576 _ (by omega) (by omega)).mono ?_
    rintro e w1 ⟨rfl, hb⟩
    have S1 := S0.below hb
    have z1 : w.heap.size + 1 ≤ w1.heap.size := by have := hb.size; simpa using this
    clear S0 hb
    obtain ⟨x0, x1, x2, x3, x4, x5, x6, xz⟩ := facts7 (S1.cells 0 rfl)
    go_wp2_with fail
    clear x0 x1 x2 x3 x4 x5 x6 xz
    refine (toMove_any M a1 c1 a2 c2 _ (by omega) (by omega) (by exact S1.reads 2 rfl) (by exact S1.reads 1 rfl)).mono ?_
    rintro e w2 ⟨b1, d1, b2, d2, mid, rfl, hd, hm, R⟩
    have S2 := S1.more R
    have z2 := R.size
    have y2 : mid ≤ w2.heap.size := (R.all _ (List.mem_cons_of_mem _ (List.mem_cons_self ..))).1
    clear S1 R
    simp only [List.cons_append, List.nil_append] at S2
    go_wp2_with fail
    refine (HS.out b1 d1 b2 d2 _ (by exact S2.ints 1 rfl) (by exact S2.ints 0 rfl)).mono ?_
    rintro e w3 ⟨u1, v1, u2, v2, m3, rfl, -, hm3, R⟩
    have z3 := R.size
    have y3 : m3 ≤ w3.heap.size := (R.all _ (List.mem_cons_of_mem _ (List.mem_cons_self ..))).1
    have S3 := (S2.more R).alloc (movC X u1 v1 u2 v2) 28
    simp only [List.cons_append, List.nil_append] at S3
    clear S2 R
    obtain ⟨x0, x1, x2, x3, x4, x5, x6, xz⟩ := facts7 (S3.cells 5 rfl)
    go_wp2_with fail
    clear x0 x1 x2 x3 x4 x5 x6 xz
    refine (toMove_any M a1 c1 a2 c2 _ (by omega) (by omega) (by exact S3.reads 7 rfl) (by exact S3.reads 6 rfl)).mono ?_
    rintro e w4 ⟨e1, f1, e2, f2, m4, rfl, hd4, hm4, R⟩
    have z4 := R.size
    have y4 : m4 ≤ w4.heap.size := (R.all _ (List.mem_cons_of_mem _ (List.mem_cons_self ..))).1
    simp only [World.size_alloc] at z4 hm4
    have S4 := (S3.more R).alloc (movC M e1 f1 e2 f2) 28
    simp only [List.cons_append, List.nil_append, World.size_alloc] at S4
    clear S3 R
    obtain ⟨x0, x1, x2, x3, x4, x5, x6, xz⟩ := facts7 (S4.cells 0 rfl)
    go_wp2_with fail
    clear x0 x1 x2 x3 x4 x5 x6 xz
    refine (HI.out e1 f1 e2 f2 _ hd4 (by exact S4.ints 2 rfl) (by exact S4.ints 1 rfl)).mono ?_
    rintro e w5 ⟨g1, k1, g2, k2, m5, rfl, -, hm5, R⟩
    have z5 := R.size
    have y5 : m5 ≤ w5.heap.size := (R.all _ (List.mem_cons_of_mem _ (List.mem_cons_self ..))).1
    simp only [World.size_alloc] at z5 hm5
    have S5 := (S4.more R).alloc (movC X g1 k1 g2 k2) 28
    simp only [List.cons_append, List.nil_append, World.size_alloc] at S5
    clear S4 R
    obtain ⟨x0, x1, x2, x3, x4, x5, x6, xz⟩ := facts7 (S5.cells 0 rfl)
    obtain ⟨y0, y1, y2, y3', y4', y5', y6, yz⟩ := facts7 (S5.cells 6 rfl)
    go_wp2_with fail
    clear x0 x1 x2 x3 x4 x5 x6 xz y0 y1 y2 y3' y4' y5' y6 yz
    refine (eqMove_same X g1 k1 g2 k2 u1 v1 u2 v2 _ (by omega) (by omega) (by exact S5.ints 2 rfl) (by exact S5.ints 1 rfl) (by exact S5.ints 8 rfl) (by exact S5.ints 7 rfl)).mono ?_
    rintro e w6 ⟨rfl, hb⟩
    have S6 := S5.below hb
    have z6 : w5.heap.size + 1 ≤ w6.heap.size := by have := hb.size; simpa using this
    clear S5 hb
    have X0 := S6.fourteen 11 3 rfl rfl
    go_wp2_with fail
    go_region_held3 (fun w' => w'.cell? ⟨w.heap.size, 0, none⟩ = some (.int .i64 M.o.t) ∧ w'.cell? ⟨w.heap.size, 1, none⟩ = some (.int .i64 M.o.p) ∧ w'.cell? ⟨w.heap.size, 2, none⟩ = some (.slice a1 M.o.zs.length c1) ∧ w'.cell? ⟨w.heap.size, 3, none⟩ = some (.int .i64 M.n.t) ∧ w'.cell? ⟨w.heap.size, 4, none⟩ = some (.int .i64 M.n.p) ∧ w'.cell? ⟨w.heap.size, 5, none⟩ = some (.slice a2 M.n.zs.length c2) ∧ w'.cell? ⟨w.heap.size, 6, none⟩ = some (.int .i64 M.x) ∧ w'.cell? ⟨w4.heap.size, 0, none⟩ = some (.int .i64 M.o.t) ∧ w'.cell? ⟨w4.heap.size, 1, none⟩ = some (.int .i64 M.o.p) ∧ w'.cell? ⟨w4.heap.size, 2, none⟩ = some (.slice e1 M.o.zs.length f1) ∧ w'.cell? ⟨w4.heap.size, 3, none⟩ = some (.int .i64 M.n.t) ∧ w'.cell? ⟨w4.heap.size, 4, none⟩ = some (.int .i64 M.n.p) ∧ w'.cell? ⟨w4.heap.size, 5, none⟩ = some (.slice e2 M.n.zs.length f2) ∧ w'.cell? ⟨w4.heap.size, 6, none⟩ = some (.int .i64 M.x))
      (first
        | exact X0
        | exact X1
        | exact X2)
      (first
        | (go_at_call 18; refine (toMove_any M a1 c1 a2 c2 _ (by omega) (by omega) (by exact S6.drew.reads 13 rfl) (by exact S6.drew.reads 12 rfl)).mono ?_; rintro e wa ⟨s1, s2, s3, s4, mid9, rfl, hd9, hm9, R9⟩; have SA := S6.drew.more R9; have X1 := SA.fourteen 13 5 rfl rfl)
        | (go_at_call 11; refine (eqMove_same M e1 f1 e2 f2 s1 s2 s3 s4 _ (by omega) (by omega) (by exact SA.ints 7 rfl) (by exact SA.ints 6 rfl) (by exact SA.ints 1 rfl) (by exact SA.ints 0 rfl)).mono ?_; rintro e wb ⟨rfl, hb9⟩; have SB := SA.below hb9; have X2 := SB.fourteen 13 5 rfl rfl))
    clear X0 X1 X2
    have S7 := SB.behind
    have z7 : w6.heap.size ≤ wb.heap.size := by have q1 := R9.size; have q2 := hb9.size; simp only [World.size_drew] at q1; omega
    clear S6 SA SB R9 hb9
    have t2 : decide ((1 : Int) + (M.o.zs.length : Int) + (M.n.zs.length : Int) < 0) = false := by simp; omega
    obtain ⟨x0, x1, x2, x3, x4, x5, x6, xz⟩ := facts7 (S7.cells 3 rfl)
    go_wp2_with fail
    clear x0 x1 x2 x3 x4 x5 x6 xz
    refine (markMove_any M e1 f1 e2 f2 S7 4 5 _ _ _ _ rfl rfl (by omega) (by simp [Far, It.own, It.box, It.read] <;> omega) (by simp [Far, It.own, It.box, It.read] <;> omega) (by omega) (by omega) (by omega) (by omega)).mono ?_
    rintro e w8 ⟨rfl, z8, S8⟩
    simp only [List.set_cons_succ, List.set_cons_zero] at S8
    clear S7
    obtain ⟨x0, x1, x2, x3, x4, x5, x6, xz⟩ := facts7 (S8.cells 0 rfl)
    obtain ⟨y0, y1, y2, y3', y4', y5', y6, yz⟩ := facts7 (S8.cells 6 rfl)
    go_wp2_with fail
    clear x0 x1 x2 x3 x4 x5 x6 xz y0 y1 y2 y3' y4' y5' y6 yz
    refine (eqMove_same X g1 k1 g2 k2 u1 v1 u2 v2 _ (by omega) (by omega) (by exact S8.ints 2 rfl) (by exact S8.ints 1 rfl) (by exact S8.ints 8 rfl) (by exact S8.ints 7 rfl)).mono ?_
    rintro e w9 ⟨rfl, hb⟩
    have S9 := S8.below hb
    have z9 := hb.size
    clear S8 hb
    obtain ⟨x0, x1, x2, x3, x4, x5, x6, xz⟩ := facts7 (S9.cells 0 rfl)
    go_wp2_with fail
    clear x0 x1 x2 x3 x4 x5 x6 xz
    refine (markMove_any X g1 k1 g2 k2 S9 1 2 _ _ _ _ rfl rfl (by omega) (by simp [Far, It.own, It.box, It.read] <;> omega) (by simp [Far, It.own, It.box, It.read] <;> omega) (by omega) (by omega) (by omega) (by omega)).mono ?_
    rintro e w11 ⟨rfl, z11, S11⟩
    simp only [List.set_cons_succ, List.set_cons_zero] at S11
    clear S9
    have t3 : decide ((1 : Int) + (X.o.zs.length : Int) + (X.n.zs.length : Int) < 0) = false := by simp; omega
    obtain ⟨x0, x1, x2, x3, x4, x5, x6, xz⟩ := facts7 (S11.cells 0 rfl)
    go_wp2_with fail
    clear x0 x1 x2 x3 x4 x5 x6 xz
    refine (heldMove_any X g1 k1 g2 k2 _ (by omega) (by omega) (by exact S11.ints 2 rfl) (by exact S11.ints 1 rfl)).mono ?_
    rintro e w12 ⟨rfl, hb⟩
    have S12 := S11.below hb
    clear S11 hb
    obtain ⟨x0, x1, x2, x3, x4, x5, x6, xz⟩ := facts7 (S12.cells 11 rfl)
    go_wp2_with fail
    clear x0 x1 x2 x3 x4 x5 x6 xz
    refine (toMove_any M a1 c1 a2 c2 _ (by omega) (by omega) (by exact S12.reads 13 rfl) (by exact S12.reads 12 rfl)).mono ?_
    rintro e w13 ⟨h1, q1, h2, q2, m13, rfl, hd13, hm13, R⟩
    have S13 := S12.more R
    simp only [List.cons_append, List.nil_append] at S13
    clear S12 R
    go_wp2_with fail
    refine (HI.out h1 q1 h2 q2 _ hd13 (by exact S13.ints 1 rfl) (by exact S13.ints 0 rfl)).mono ?_
    rintro e w14 ⟨j1, r1, j2, r2, m14, rfl, -, hm14, R⟩
    have S14 := (S13.more R).alloc (movC X j1 r1 j2 r2) 28
    simp only [List.cons_append, List.nil_append] at S14
    clear S13 R
    obtain ⟨x0, x1, x2, x3, x4, x5, x6, xz⟩ := facts7 (S14.cells 0 rfl)
    obtain ⟨y0, y1, y2, y3', y4', y5', y6, yz⟩ := facts7 (S14.cells 11 rfl)
    go_wp2_with fail
    clear x0 x1 x2 x3 x4 x5 x6 xz y0 y1 y2 y3' y4' y5' y6 yz
    refine (eqMove_same X j1 r1 j2 r2 u1 v1 u2 v2 _ (by omega) (by omega) (by exact S14.ints 2 rfl) (by exact S14.ints 1 rfl) (by exact S14.ints 13 rfl) (by exact S14.ints 12 rfl)).mono ?_
    rintro e w15 ⟨rfl, hb⟩
    have S15 := S14.below hb
    clear S14 hb
    obtain ⟨x0, x1, x2, x3, x4, x5, x6, xz⟩ := facts7 (S15.cells 5 rfl)
    go_wp2_with fail
    clear x0 x1 x2 x3 x4 x5 x6 xz
    refine (heldMove_any X g1 k1 g2 k2 _ (by omega) (by omega) (by exact S15.ints 7 rfl) (by exact S15.ints 6 rfl)).mono ?_
    rintro e w16 ⟨rfl, hb⟩
    have S16 := S15.below hb
    clear S15 hb
    go_wp2_with fail
    go_ret
    exact ⟨rfl, S16.old⟩
  · obtain ⟨x0, x1, x2, x3, x4, x5, x6, xz⟩ := facts7 (S0.cells 0 rfl)
    go_enter Tryz.func5, Tryz.ntmps5
    go_wp2_with fail
    clear x0 x1 x2 x3 x4 x5 x6 xz
    refine (szMove_big M a1 c1 a2 c2 1048576 _ hx1 hx2 (by omega) (by omega) (by omega)).mono ?_
    rintro e w1 ⟨rfl, hb⟩
    go_wp2
    go_ret
    exact ⟨rfl, (S0.below hb).old⟩

end Go.Proofs.YtjhdlbcgnhkbhaaGreat

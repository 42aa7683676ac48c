/-
  The exact law of StartMove: the walk.
-/
import Derived.Test.YtjhdlbcgnhkbhaaGreatMoveG
import Derived.Test.YtjhdlbcgnhkbhaaGreatMoveH
import Derived.Test.YtjhdlbcgnhkbhaaGreatEqT
namespace Go.Proofs.YtjhdlbcgnhkbhaaGreat
open Go.RowKit

theorem startMT_len (T : Tab) (size : Int) : (startMT T size).o.zs.length ≤ 16 ∧ (startMT T size).n.zs.length ≤ 16 := by
  unfold startMT
  split
  · rename_i h
    simp only [startOk, Bool.and_eq_true] at h
    obtain ⟨⟨_, l2⟩, _⟩ := valid_facts (sound_valid h.1)
    have := inB_iff.1 h.2.1
    exact ⟨l2, by simp [startM]; omega⟩
  · exact ⟨by simp [zeroM], by simp [zeroM]⟩

set_option maxHeartbeats 8000000 in
theorem walkFnExactStartMove (w : World) (T : Tab) (a : Option Addr) (c : Nat) (h : TabIn w T a) (size : Int) (_hsize : (Lit.int .i64 size).wf = true) :
    Calls Tryz.prog 3 #[tabV T a c, .int .i64 size] w fun e w' => e = .returned (.bool true) ∧ Below w.heap.size w w' := by
  have hx := h.len
  have S0 := ((St.start w).read h.at_).alloc #[.int .i64 T.t, .int .i64 T.p, .slice a T.zs.length c] 24
  have HS := Lib.hid fun (a : Option Addr) (c : Nat) (W : World) (h1 : IntsAt W a T.zs) => specStartMove_any T a c size W hx h1
  have HI := Lib.hid fun (a : Option Addr) (W : World) (h1 : IntsAt W a T.zs) => StartMove_any T a T.zs.length size W hx (Nat.le_refl _) h1
  obtain ⟨xl1, xl2⟩ := startMT_len T size
  generalize startMT T size = X at HS HI xl1 xl2
  generalize startOk T size = ok at HS HI
  by_cases hs : T.zs.length ≤ 1048576
  · have t1 : decide ((1048576 : Int) - (T.zs.length : Int) < 0) = false := by simp; omega
    obtain ⟨x0, x1, x2, x3, x4, x5, xz⟩ := facts3 (S0.cells 0 rfl)
    go_enter Tryz.func3, Tryz.ntmps3
    go_wp2_with fail
    clear x0 x1 x2 x3 x4 x5 xz
    refine (szTable_ok T.t T.p a T.zs.length c 1048576 _ (by omega) (by omega)).mono ?_
    rintro e w1 ⟨rfl, hb⟩
    have S1 := S0.below hb
    have z1 : w.heap.size + 1 ≤ w1.heap.size := by have := hb.size; simpa using this
    clear S0 hb
    obtain ⟨x0, x1, x2, x3, x4, x5, xz⟩ := facts3 (S1.cells 0 rfl)
    go_wp2_with fail
    clear x0 x1 x2 x3 x4 x5 xz
    refine (toTable_any T a c _ hs (by exact S1.reads 1 rfl)).mono ?_
    rintro e w2 ⟨a2, c2, rfl, ho, hb⟩
    have S2 := (S1.below hb).own ho
    have z2 := hb.size
    clear S1 hb ho
    go_wp2_with fail
    refine (HS.out a2 c2 _ (by exact S2.ints 0 rfl)).mono ?_
    rintro e w3 ⟨b1, d1, b2, d2, m3, rfl, -, hm3, R⟩
    have z3 := R.size
    have v3 : m3 ≤ w3.heap.size := (R.all _ (List.mem_cons_of_mem _ (List.mem_cons_self ..))).1
    have S3 := (S2.more R).alloc (movC X b1 d1 b2 d2) 28
    simp only [List.cons_append, List.nil_append] at S3
    clear S2 R
    obtain ⟨x0, x1, x2, x3, x4, x5, xz⟩ := facts3 (S3.cells 4 rfl)
    go_wp2_with fail
    clear x0 x1 x2 x3 x4 x5 xz
    refine (toTable_cap T a c _ hs (by exact S3.reads 5 rfl)).mono ?_
    rintro e w4 ⟨a4, rfl, ho, hb⟩
    have S4 := ((S3.below hb).own ho).alloc #[.int .i64 T.t, .int .i64 T.p, .slice a4 T.zs.length T.zs.length] 26
    have z4 : w3.heap.size + 1 ≤ w4.heap.size := by have := hb.size; simpa using this
    simp only [World.size_alloc] at S4
    clear S3 hb ho
    obtain ⟨x0, x1, x2, x3, x4, x5, xz⟩ := facts3 (S4.cells 0 rfl)
    go_wp2_with fail
    clear x0 x1 x2 x3 x4 x5 xz
    refine (HI.out a4 _ (by exact S4.ints 1 rfl)).mono ?_
    rintro e w5 ⟨g1, k1, g2, k2, m5, rfl, -, hm5, R⟩
    have z5 := R.size
    have v5 : m5 ≤ w5.heap.size := (R.all _ (List.mem_cons_of_mem _ (List.mem_cons_self ..))).1
    simp only [World.size_alloc] at z5 hm5
    have S5 := (S4.more R).alloc (movC X g1 k1 g2 k2) 28
    simp only [List.cons_append, List.nil_append, World.size_alloc] at S5
    clear S4 R
    obtain ⟨x0, x1, x2, x3, x4, x5, x6, xz⟩ := facts7 (S5.cells 0 rfl)
    obtain ⟨y0, y1, y2, y3, y4, y5, y6, yz⟩ := facts7 (S5.cells 5 rfl)
    go_wp2_with fail
    clear x0 x1 x2 x3 x4 x5 x6 xz y0 y1 y2 y3 y4 y5 y6 yz
    refine (eqMove_same X g1 k1 g2 k2 b1 d1 b2 d2 _ (by omega) (by omega) (by exact S5.ints 2 rfl) (by exact S5.ints 1 rfl) (by exact S5.ints 7 rfl) (by exact S5.ints 6 rfl)).mono ?_
    rintro e w6 ⟨rfl, hb⟩
    have S6 := S5.below hb
    have z6 : w5.heap.size + 1 ≤ w6.heap.size := by have := hb.size; simpa using this
    clear S5 hb
    have X0 := S6.six 9 3 rfl rfl
    obtain ⟨x0, x1, x2, y0, y1, y2⟩ := X0
    go_wp2_with fail
    go_region_held3 (fun w' => w'.cell? ⟨w.heap.size, 0, none⟩ = some (.int .i64 T.t) ∧ w'.cell? ⟨w.heap.size, 1, none⟩ = some (.int .i64 T.p) ∧ w'.cell? ⟨w.heap.size, 2, none⟩ = some (.slice a T.zs.length c) ∧
        w'.cell? ⟨w4.heap.size, 0, none⟩ = some (.int .i64 T.t) ∧ w'.cell? ⟨w4.heap.size, 1, none⟩ = some (.int .i64 T.p) ∧ w'.cell? ⟨w4.heap.size, 2, none⟩ = some (.slice a4 T.zs.length T.zs.length))
      (first
        | exact ⟨x0, x1, x2, y0, y1, y2⟩
        | exact S7.six 9 3 rfl rfl
        | exact S8.six 9 3 rfl rfl)
      (first
        | (go_at_call 9; refine (toTable_any T a c _ hs (by exact S6.drew.reads 10 rfl)).mono ?_; rintro e w7 ⟨a7, c7, rfl, ho, hb⟩; have S7 := (S6.drew.below hb); have z7 : w6.heap.size ≤ w7.heap.size := hb.size; clear hb)
        | (go_at_call 12; refine (eqTable_same T a4 a7 T.zs.length c7 _ (by omega) (by exact S7.ints 4 rfl) (by exact ho.ints)).mono ?_; rintro e w8 ⟨rfl, hb⟩; have S8 := S7.below hb; have z8 : w7.heap.size ≤ w8.heap.size := hb.size; clear hb))
    clear x0 x1 x2 y0 y1 y2 S6 S7 ho
    obtain ⟨y0, y1, y2, y3, y4, y5, _⟩ := facts3 (S8.cells 3 rfl)
    go_wp2_with fail
    clear y0 y1 y2 y3 y4 y5
    refine (markTable_any _ T.t T.p a4 T.zs.length T.zs 1 _ (by omega) (by omega) (by omega) (by exact S8.owns 4 rfl)).mono ?_
    rintro e w9 ⟨rfl, ho, hg⟩
    have S9 := S8.markAt hg ho 4 rfl (by simp [Far, It.own, It.box, It.read] <;> omega) (by omega)
    have z9 := hg.size
    simp only [List.set_cons_succ, List.set_cons_zero] at S9
    clear S8 ho hg
    have t2 : decide ((1 : Int) + (T.zs.length : Int) < 0) = false := by simp; omega
    obtain ⟨x0, x1, x2, x3, x4, x5, x6, xz⟩ := facts7 (S9.cells 0 rfl)
    obtain ⟨y0, y1, y2, y3, y4, y5, y6, yz⟩ := facts7 (S9.cells 5 rfl)
    go_wp2_with fail
    clear x0 x1 x2 x3 x4 x5 x6 xz y0 y1 y2 y3 y4 y5 y6 yz
    refine (eqMove_same X g1 k1 g2 k2 b1 d1 b2 d2 _ (by omega) (by omega) (by exact S9.ints 2 rfl) (by exact S9.ints 1 rfl) (by exact S9.ints 7 rfl) (by exact S9.ints 6 rfl)).mono ?_
    rintro e w10 ⟨rfl, hb⟩
    have S10 := S9.below hb
    have z10 := hb.size
    clear S9 hb
    obtain ⟨x0, x1, x2, x3, x4, x5, x6, xz⟩ := facts7 (S10.cells 0 rfl)
    go_wp2_with fail
    clear x0 x1 x2 x3 x4 x5 x6 xz
    refine (markMove_any X g1 k1 g2 k2 S10 1 2 _ _ _ _ rfl rfl (by omega) (by simp [Far, It.own, It.box, It.read] <;> omega) (by simp [Far, It.own, It.box, It.read] <;> omega) (by omega) (by omega) (by omega) (by omega)).mono ?_
    rintro e w11 ⟨rfl, z11, S11⟩
    simp only [List.set_cons_succ, List.set_cons_zero] at S11
    clear S10
    have t3 : decide ((1 : Int) + (X.o.zs.length : Int) + (X.n.zs.length : Int) < 0) = false := by simp; omega
    obtain ⟨x0, x1, x2, x3, x4, x5, x6, xz⟩ := facts7 (S11.cells 0 rfl)
    go_wp2_with fail
    clear x0 x1 x2 x3 x4 x5 x6 xz
    refine (heldMove_any X g1 k1 g2 k2 _ (by omega) (by omega) (by exact S11.ints 2 rfl) (by exact S11.ints 1 rfl)).mono ?_
    rintro e w12 ⟨rfl, hb⟩
    have S12 := S11.below hb
    clear S11 hb
    obtain ⟨x0, x1, x2, x3, x4, x5, xz⟩ := facts3 (S12.cells 9 rfl)
    go_wp2_with fail
    clear x0 x1 x2 x3 x4 x5 xz
    refine (toTable_cap T a c _ hs (by exact S12.reads 10 rfl)).mono ?_
    rintro e w13 ⟨a13, rfl, ho, hb⟩
    have S13 := (S12.below hb).own ho
    clear S12 ho hb
    go_wp2_with fail
    refine (HI.out a13 _ (by exact S13.ints 0 rfl)).mono ?_
    rintro e w14 ⟨h1, q1, h2, q2, m14, rfl, -, hm14, R⟩
    have S14 := (S13.more R).alloc (movC X h1 q1 h2 q2) 28
    simp only [List.cons_append, List.nil_append] at S14
    clear S13 R
    obtain ⟨x0, x1, x2, x3, x4, x5, x6, xz⟩ := facts7 (S14.cells 0 rfl)
    obtain ⟨y0, y1, y2, y3, y4, y5, y6, yz⟩ := facts7 (S14.cells 9 rfl)
    go_wp2_with fail
    clear x0 x1 x2 x3 x4 x5 x6 xz y0 y1 y2 y3 y4 y5 y6 yz
    refine (eqMove_same X h1 q1 h2 q2 b1 d1 b2 d2 _ (by omega) (by omega) (by exact S14.ints 2 rfl) (by exact S14.ints 1 rfl) (by exact S14.ints 11 rfl) (by exact S14.ints 10 rfl)).mono ?_
    rintro e w15 ⟨rfl, hb⟩
    have S15 := S14.below hb
    clear S14 hb
    obtain ⟨x0, x1, x2, x3, x4, x5, x6, xz⟩ := facts7 (S15.cells 4 rfl)
    go_wp2_with fail
    clear x0 x1 x2 x3 x4 x5 x6 xz
    refine (heldMove_any X g1 k1 g2 k2 _ (by omega) (by omega) (by exact S15.ints 6 rfl) (by exact S15.ints 5 rfl)).mono ?_
    rintro e w16 ⟨rfl, hb⟩
    have S16 := S15.below hb
    clear S15 hb
    go_wp2_with fail
    go_ret
    exact ⟨rfl, S16.old⟩
  · obtain ⟨x0, x1, x2, x3, x4, x5, xz⟩ := facts3 (S0.cells 0 rfl)
    go_enter Tryz.func3, Tryz.ntmps3
    go_wp2_with fail
    clear x0 x1 x2 x3 x4 x5 xz
    refine (szTable_big T.t T.p a T.zs.length c 1048576 _ hx (by omega) (by omega) (by omega)).mono ?_
    rintro e w1 ⟨rfl, hb⟩
    go_wp2
    go_ret
    exact ⟨rfl, (S0.below hb).old⟩

end Go.Proofs.YtjhdlbcgnhkbhaaGreat

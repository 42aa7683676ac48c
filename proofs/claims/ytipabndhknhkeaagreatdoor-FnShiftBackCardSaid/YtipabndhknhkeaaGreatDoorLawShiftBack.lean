/-
  The law FnShiftBack: the walk.
-/
import Derived.Test.YtipabndhknhkeaaGreatDoorShiftI
import Derived.Test.YtipabndhknhkeaaGreatDoorPut
import Derived.Test.YtipabndhknhkeaaGreatDoorCount
import Derived.Test.YtipabndhknhkeaaGreatDoorSame
import Derived.Test.YtipabndhknhkeaaGreatDoorDraw3P
import Derived.Test.YtipabndhknhkeaaGreatDoorDrawn
namespace Go.Proofs.YtipabndhknhkeaaGreatDoor
open Go.RowKit

theorem no_tombs {T : Tab} (hv : validB T = true) (h : ¬ 0 < countT T) : ∀ i, i < T.zs.length → nth T.zs i ≠ -2 := by
  intro i hi e
  refine h ?_
  unfold countT cnt
  rw [if_pos hv, List.take_length]
  have : 0 < T.zs.countP tombP := List.countP_pos_iff.2 ⟨nth T.zs i, nth_mem hi, by rw [e]; rfl⟩
  omega

set_option maxHeartbeats 4000000 in
set_option maxRecDepth 100000 in
theorem walkFnShiftBack (w : World) (a : Option Addr) (len cap : Nat) (zs : List Int) (h : IsRow .u8 w a len cap zs) (hL : Laid w) :
    Calls Tryz.prog 6 #[.slice a len cap] w fun e w' => e = .returned (.bool true) ∧ Below w.heap.size w w' := by
  obtain ⟨ys, rfl, hC, S0⟩ := came_of h
  clear h
  by_cases hs : ys.length ≤ 1048576
  · have t1 : decide (1048576 < (ys.length : Int)) = false := by simp; omega
    go_enter Tryz.func6, Tryz.ntmps6
    go_wp2_with fail
    refine (DrawPutKey_any (by exact S0) hC).mono ?_
    rintro e w1 ⟨T, a1, c1, lo, hi, key, rfl, hT, ⟨k1, k2⟩, hlo, S1⟩
    obtain ⟨n1, n2⟩ := hT.len
    have hul := putT_len T key
    have HU := Lib.hid fun (W : World) (h : IntsAt W a1 T.zs) => PutKey_any T a1 c1 key W (by omega) h
    have HW := Lib.hid fun (W : World) (h : IntsAt W a1 T.zs) => specPutKey_any T a1 c1 key W (by omega) h
    have hsb := fun (h : putOk T key = true) (h2 : ¬ 0 < countT T) => shift_back h (no_tombs (put_says h).val h2)
    generalize putT T key = U at hul HU HW hsb
    have S2 := S1.alloc #[.int .i64 T.t, .int .i64 T.p, .slice a1 T.zs.length c1] 28
    go_wp2_with fail
    refine (HU.out _ (by exact S2.ints 1 rfl)).mono ?_
    rintro e w2 ⟨a2, c2, rfl, ho, hb⟩
    have S3 : ∃ l2 h2, St w w2 [It.own l2 h2 a2 U.zs, It.box w1.heap.size #[.int .i64 T.t, .int .i64 T.p, .slice a1 T.zs.length c1] 28, It.own lo hi a1 T.zs] := ⟨_, _, (S2.below hb).own ho⟩
    obtain ⟨l2, h2, S3⟩ := S3
    clear S1 S2 ho hb
    obtain ⟨x0, x1, x2, x3, x4, x5, xz⟩ := facts3 (S3.cells 1 rfl)
    have S4 := S3.alloc #[.int .i64 U.t, .int .i64 U.p, .slice a2 U.zs.length c2] 28
    clear S3
    go_wp2_with fail
    clear x0 x1 x2 x3 x4 x5 xz
    refine (HW.out _ (by exact S4.ints 3 rfl)).mono ?_
    rintro e w3 ⟨a3, c3, rfl, ho, hb⟩
    have S5 := (S4.below hb).alloc #[.int .i64 U.t, .int .i64 U.p, .slice a3 U.zs.length c3] 28
    clear S4 ho hb
    obtain ⟨x0, x1, x2, x3, x4, x5, xz⟩ := facts3 (S5.cells 3 rfl)
    have HCS := Lib.hid fun (W : World) (h : IntsAt W a1 T.zs) => CountSlots_any T a1 c1 W (by omega) h
    cases ok : putOk T key
    · go_wp2_with fail
      clear x0 x1 x2 x3 x4 x5 xz
      refine (HCS.out _ (by exact S5.ints 4 rfl)).mono ?_
      rintro e w4 ⟨rfl, hb⟩
      have S6 := S5.below hb
      go_wp2
      go_ret
      exact ⟨rfl, S6.old⟩
    · have HSB := Lib.hid (hsb ok)
      clear hsb
      by_cases ht : 0 < countT T
      · generalize countT T = ct at HCS ht
        generalize countK T = ck at HCS
        generalize countF T = cf at HCS
        have t2 : decide (0 < ct) = true := decide_eq_true ht
        go_wp2_with fail
        clear x0 x1 x2 x3 x4 x5 xz
        refine (HCS.out _ (by exact S5.ints 4 rfl)).mono ?_
        rintro e w4 ⟨rfl, hb⟩
        have S6 := S5.below hb
        go_wp2
        go_ret
        exact ⟨rfl, S6.old⟩
      · obtain ⟨e1, e2, e3⟩ := HSB.out (by omega)
        have HD := Lib.hid fun (W : World) (h : IntsAt W a2 U.zs) (hl : Laid W) => DropShift_any U a2 c2 key W (by omega) h hl
        have HM := Lib.hid fun (W : World) (h : IntsAt W a2 U.zs) (hl : Laid W) => MovesBy_any U a2 c2 key W (by omega) h hl
        rw [e1, e3] at HD
        rw [e1, e2] at HM
        clear e1 e2 e3 HSB
        generalize countT T = ct at HCS ht
        generalize countK T = ck at HCS
        generalize countF T = cf at HCS
        have t2 : decide (0 < ct) = false := decide_eq_false ht
        go_wp2_with fail
        clear x0 x1 x2 x3 x4 x5 xz
        refine (HCS.out _ (by exact S5.ints 4 rfl)).mono ?_
        rintro e w4 ⟨rfl, hb⟩
        have S6 := S5.below hb
        clear S5 hb
        obtain ⟨x0, x1, x2, x3, x4, x5, xz⟩ := facts3 (S6.cells 1 rfl)
        go_wp2_with fail
        clear x0 x1 x2 x3 x4 x5 xz
        refine (HD.out _ (by exact S6.ints 2 rfl) (hL.below S6.old hL.pos)).mono ?_
        rintro e w5 ⟨a5, c5, rfl, ho, hb⟩
        have S7 := ((S6.below hb).own ho).alloc #[.int .i64 T.t, .int .i64 T.p, .slice a5 T.zs.length c5] 28
        clear S6 ho hb
        obtain ⟨x0, x1, x2, x3, x4, x5, xz⟩ := facts3 (S7.cells 3 rfl)
        go_wp2_with fail
        clear x0 x1 x2 x3 x4 x5 xz
        refine (HM.out _ (by exact S7.ints 4 rfl) (hL.below S7.old hL.pos)).mono ?_
        rintro e w6 ⟨a6, c6, rfl, _, hb⟩
        have S8 := S7.below hb
        clear S7 hb
        obtain ⟨x0, x1, x2, x3, x4, x5, xz⟩ := facts3 (S8.cells 0 rfl)
        obtain ⟨y0, y1, y2, y3, y4, y5, yz⟩ := facts3 (S8.cells 5 rfl)
        go_wp2_with fail
        refine (SameTable_any T T a5 a1 c5 c1 _ (by omega) (by omega) (by exact S8.ints 1 rfl) (by exact S8.ints 6 rfl)).mono ?_
        have hsame : sameB T T = true := by simp [sameB]
        rw [hsame]
        rintro e w7 ⟨rfl, hb⟩
        have S9 := S8.below hb
        go_wp2
        go_ret
        exact ⟨rfl, S9.old⟩
  · have t1 : decide (1048576 < (ys.length : Int)) = true := by simp; omega
    go_enter Tryz.func6, Tryz.ntmps6
    go_wp2_with fail
    go_ret
    exact ⟨rfl, S0.old⟩

end Go.Proofs.YtipabndhknhkeaaGreatDoor

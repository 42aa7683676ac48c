/-
  FindIn of the program.
-/
import Derived.Test.YtjhdlbcgnhkbhaaGreatDoorMoveV
import Derived.Test.YtjhdlbcgnhkbhaaGreatDoorMoveC
import Derived.Test.YtjhdlbcgnhkbhaaGreatDoorFindI
namespace Go.Proofs.YtjhdlbcgnhkbhaaGreatDoor
open Go.RowKit

/-- Of a valid move: where a key is found, by FindKey. -/
theorem find_says {M : Mov} {key : Int} (hm : movB M = true) :
    inNew M key = decide (0 ≤ findOf M.n key) ∧ inOld M key = (!decide (0 ≤ findOf M.n key) && decide (0 ≤ findOf M.o key)) ∧ (inNew M key = true → findI M.n key = findOf M.n key) ∧ (inOld M key = true → findI M.o key = findOf M.o key) := by
  obtain ⟨_, _, _, _, _, hv1, hv2⟩ := movB_parts hm
  cases hk : inB key 0 99
  · have e1 : findOf M.n key = -1 := by simp [findOf, hk]
    have e2 : findOf M.o key = -1 := by simp [findOf, hk]
    simp [inNew, inOld, hk, e1, e2]
  · have e1 : findOf M.n key = findI M.n key := by simp [findOf, hk, hv2]
    have e2 : findOf M.o key = findI M.o key := by simp [findOf, hk, hv1]
    rw [e1, e2]
    simp [inNew, inOld, hm, hk]

set_option maxHeartbeats 2000000 in
theorem FindIn_any (M : Mov) (a1 : Option Addr) (c1 : Nat) (a2 : Option Addr) (c2 : Nat) (key : Int) (w : World) (hx1 : M.o.zs.length ≤ 9223372036854775807) (hx2 : M.n.zs.length ≤ 9223372036854775807) (hc : M.o.zs.length ≤ c1) (h1 : IntsAt w a1 M.o.zs) (h2 : IntsAt w a2 M.n.zs) (hL : Laid w) :
    Calls Tryz.prog 9 #[movV M a1 c1 a2 c2, .int .i64 key] w (FindRes M key w) := by
  have S0 := (((St.start w).read h1).read h2).alloc (movC M a1 c1 a2 c2) 32
  obtain ⟨x0, x1, x2, x3, x4, x5, x6, xz⟩ := facts7 (S0.cells 0 rfl)
  cases hm : movB M
  · have e1 : inNew M key = false := by simp [inNew, hm]
    have e2 : inOld M key = false := by simp [inOld, hm]
    have R : Hid (whereS M key = noS ∧ fndSlot M key = -1 ∧ dropMok M key = false) := Lib.hid ⟨(where_no e1 e2).1, (where_no e1 e2).2, by simp [dropMok, e1, e2]⟩
    clear e1 e2
    go_enter Tryz.func9, Tryz.ntmps9
    go_wp2_with fail
    clear x0 x1 x2 x3 x4 x5 x6 xz
    refine (MoveValid_any M a1 c1 a2 c2 _ hx1 hx2 hc (by exact S0.reads 2 rfl) (by exact S0.reads 1 rfl)).mono ?_
    rw [hm]
    rintro e w1 ⟨rfl, hb⟩
    have S1 := S0.below hb
    go_wp2_with fail
    refine bodyPost_ret (v := .tuple #[.string noS, .int .i64 (-1), .bool false]) (by simp [results, Tryz.results9, go_sem, noS]) rfl ⟨?_, S1.old⟩
    rw [R.out.1, R.out.2.1, R.out.2.2]
  obtain ⟨q1, q2, q3, q4⟩ := find_says (key := key) hm
  have HF2 := Lib.hid fun (W : World) (h : IntsAt W a2 M.n.zs) (hl : Laid W) => FindKey_any M.n a2 c2 key W hx2 h hl
  have HF1 := Lib.hid fun (W : World) (h : IntsAt W a1 M.o.zs) (hl : Laid W) => FindKey_any M.o a1 c1 key W hx1 h hl
  have E1 := Lib.hid q1
  have E2 := Lib.hid q2
  have E3 := Lib.hid q3
  have E4 := Lib.hid q4
  clear q1 q2 q3 q4
  generalize findOf M.n key = fn at *
  generalize findOf M.o key = fo at *
  cases d2 : decide (0 ≤ fn)
  · rw [d2] at E1 E2 HF2
    have e1 : inNew M key = false := E1.out
    cases d1 : decide (0 ≤ fo)
    · rw [d1] at E2 HF1
      have e2 : inOld M key = false := E2.out
      have R : Hid (whereS M key = noS ∧ fndSlot M key = -1 ∧ dropMok M key = false) := Lib.hid ⟨(where_no e1 e2).1, (where_no e1 e2).2, by simp [dropMok, e1, e2]⟩
      clear e1 e2 E1 E2 E3 E4
      go_enter Tryz.func9, Tryz.ntmps9
      go_wp2_with fail
      clear x0 x1 x2 x3 x4 x5 x6 xz
      refine (MoveValid_any M a1 c1 a2 c2 _ hx1 hx2 hc (by exact S0.reads 2 rfl) (by exact S0.reads 1 rfl)).mono ?_
      rw [hm]
      rintro e w1 ⟨rfl, hb⟩
      have S1 := S0.below hb
      clear S0 hb
      obtain ⟨x0, x1, x2, x3, x4, x5, x6, xz⟩ := facts7 (S1.cells 0 rfl)
      go_wp2_with fail
      refine (HF2.out _ (by exact S1.reads 1 rfl) (by exact hL.below S1.old hL.pos)).mono ?_
      rintro e w2 ⟨rfl, hb⟩
      have S2 := S1.below hb
      clear S1 hb x0 x1 x2 x3 x4 x5 x6 xz
      obtain ⟨x0, x1, x2, x3, x4, x5, x6, xz⟩ := facts7 (S2.cells 0 rfl)
      go_wp2_with fail
      refine (HF1.out _ (by exact S2.reads 2 rfl) (by exact hL.below S2.old hL.pos)).mono ?_
      rintro e w3 ⟨rfl, hb⟩
      have S3 := S2.below hb
      clear S2 hb x0 x1 x2 x3 x4 x5 x6 xz
      go_wp2_with fail
      refine bodyPost_ret (v := .tuple #[.string noS, .int .i64 (-1), .bool false]) (by simp [results, Tryz.results9, go_sem, noS]) rfl ⟨?_, S3.old⟩
      rw [R.out.1, R.out.2.1, R.out.2.2]
    · rw [d1] at E2 HF1
      have e2 : inOld M key = true := E2.out
      have R : Hid (whereS M key = oldS ∧ fndSlot M key = fo ∧ dropMok M key = true) := Lib.hid ⟨(where_old e1 e2).1, (where_old e1 e2).2.trans (E4.out e2), by simp [dropMok, e1, e2]⟩
      clear e1 e2 E1 E2 E3 E4
      go_enter Tryz.func9, Tryz.ntmps9
      go_wp2_with fail
      clear x0 x1 x2 x3 x4 x5 x6 xz
      refine (MoveValid_any M a1 c1 a2 c2 _ hx1 hx2 hc (by exact S0.reads 2 rfl) (by exact S0.reads 1 rfl)).mono ?_
      rw [hm]
      rintro e w1 ⟨rfl, hb⟩
      have S1 := S0.below hb
      clear S0 hb
      obtain ⟨x0, x1, x2, x3, x4, x5, x6, xz⟩ := facts7 (S1.cells 0 rfl)
      go_wp2_with fail
      refine (HF2.out _ (by exact S1.reads 1 rfl) (by exact hL.below S1.old hL.pos)).mono ?_
      rintro e w2 ⟨rfl, hb⟩
      have S2 := S1.below hb
      clear S1 hb x0 x1 x2 x3 x4 x5 x6 xz
      obtain ⟨x0, x1, x2, x3, x4, x5, x6, xz⟩ := facts7 (S2.cells 0 rfl)
      go_wp2_with fail
      refine (HF1.out _ (by exact S2.reads 2 rfl) (by exact hL.below S2.old hL.pos)).mono ?_
      rintro e w3 ⟨rfl, hb⟩
      have S3 := S2.below hb
      clear S2 hb x0 x1 x2 x3 x4 x5 x6 xz
      go_wp2_with fail
      refine bodyPost_ret (v := .tuple #[.string oldS, .int .i64 fo, .bool true]) (by simp [results, Tryz.results9, go_sem, oldS]) rfl ⟨?_, S3.old⟩
      rw [R.out.1, R.out.2.1, R.out.2.2]
  · rw [d2] at E1 HF2
    have e1 : inNew M key = true := E1.out
    have R : Hid (whereS M key = newS ∧ fndSlot M key = fn ∧ dropMok M key = true) := Lib.hid ⟨(where_new e1).1, (where_new e1).2.trans (E3.out e1), by simp [dropMok, e1]⟩
    clear e1 E1 E2 E3 E4
    go_enter Tryz.func9, Tryz.ntmps9
    go_wp2_with fail
    clear x0 x1 x2 x3 x4 x5 x6 xz
    refine (MoveValid_any M a1 c1 a2 c2 _ hx1 hx2 hc (by exact S0.reads 2 rfl) (by exact S0.reads 1 rfl)).mono ?_
    rw [hm]
    rintro e w1 ⟨rfl, hb⟩
    have S1 := S0.below hb
    clear S0 hb
    obtain ⟨x0, x1, x2, x3, x4, x5, x6, xz⟩ := facts7 (S1.cells 0 rfl)
    go_wp2_with fail
    refine (HF2.out _ (by exact S1.reads 1 rfl) (by exact hL.below S1.old hL.pos)).mono ?_
    rintro e w2 ⟨rfl, hb⟩
    have S2 := S1.below hb
    clear S1 hb x0 x1 x2 x3 x4 x5 x6 xz
    go_wp2_with fail
    refine bodyPost_ret (v := .tuple #[.string newS, .int .i64 fn, .bool true]) (by simp [results, Tryz.results9, go_sem, newS]) rfl ⟨?_, S2.old⟩
    rw [R.out.1, R.out.2.1, R.out.2.2]

end Go.Proofs.YtjhdlbcgnhkbhaaGreatDoor

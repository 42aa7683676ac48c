/-
  The laws' marks on moves: markMove, heldMove.
-/
import Derived.Test.YtjhdlbcgnhkbhaaGreatMoveF
namespace Go.Proofs.YtjhdlbcgnhkbhaaGreat
open Go.RowKit

/-- The numbers from m on. -/
def from' (m : Int) (n : Nat) : List Int := (List.range n).map (fun i : Nat => m + i)
theorem from_len (m : Int) (n : Nat) : (from' m n).length = n := by simp [from']

theorem heldTable_at (t p : Int) (a : Option Addr) (n c : Nat) (m : Int) (w : World) (hx : n ≤ 1073741824) (h0 : 0 ≤ m) (hm : m ≤ 1073741824) (h1 : IntsAt w a (from' m n)) :
    Calls Tryz.prog 24 #[.agg #[.int .i64 t, .int .i64 p, .slice a n c], .int .i64 m] w fun e w' => e = .returned (.int .i64 (m + n)) ∧ Below w.heap.size w w' := by
  have h := heldTable_any t p a c _ m w (by rw [from_len]; exact hx) h0 hm h1 (by
    intro j hj
    rw [from_len] at hj
    simp [from', hj])
  rw [from_len] at h
  exact h

set_option maxHeartbeats 1000000 in
theorem heldMove_any (M : Mov) (a1 : Option Addr) (c1 : Nat) (a2 : Option Addr) (c2 : Nat) (w : World) (hx1 : M.o.zs.length ≤ 16777216) (hx2 : M.n.zs.length ≤ 16777216) (h1 : IntsAt w a1 (from' 1 M.o.zs.length)) (h2 : IntsAt w a2 (from' (1 + M.o.zs.length) M.n.zs.length)) :
    Calls Tryz.prog 15 #[movV M a1 c1 a2 c2, .int .i64 1] w fun e w' => e = .returned (.int .i64 (1 + M.o.zs.length + M.n.zs.length)) ∧ Below w.heap.size w w' := by
  have S0 := (((St.start w).read h1).read h2).alloc (movC M a1 c1 a2 c2) 28
  have t1 : decide ((1 : Int) + (M.o.zs.length : Int) < 0) = false := by simp; omega
  have t2 : decide ((1 : Int) + (M.o.zs.length : Int) + (M.n.zs.length : Int) < 0) = false := by simp; omega
  obtain ⟨x0, x1, x2, x3, x4, x5, x6, xz⟩ := facts7 (S0.cells 0 rfl)
  go_enter Tryz.func15, Tryz.ntmps15
  go_wp2_with fail
  clear x0 x1 x2 x3 x4 x5 x6 xz
  refine (heldTable_at M.o.t M.o.p a1 M.o.zs.length c1 1 _ (by omega) (by omega) (by omega) (by exact S0.reads 2 rfl)).mono ?_
  rintro e w1 ⟨rfl, hb⟩
  have S1 := S0.below hb
  clear S0 hb
  obtain ⟨x0, x1, x2, x3, x4, x5, x6, xz⟩ := facts7 (S1.cells 0 rfl)
  go_wp2_with fail
  clear x0 x1 x2 x3 x4 x5 x6 xz
  refine (heldTable_at M.n.t M.n.p a2 M.n.zs.length c2 (1 + M.o.zs.length) _ (by omega) (by omega) (by omega) (by exact S1.reads 1 rfl)).mono ?_
  rintro e w2 ⟨rfl, hb⟩
  have S2 := S1.below hb
  go_wp2_with fail
  go_ret
  exact ⟨rfl, S2.old⟩

set_option maxHeartbeats 1000000 in
theorem markMove_any (M : Mov) (a1 : Option Addr) (c1 : Nat) (a2 : Option Addr) (c2 : Nat) {w0 w : World} {l : List It} (S : St w0 w l) (i j lo1 hi1 lo2 hi2 : Nat) (hi : l[i]? = some (It.own lo2 hi2 a2 M.n.zs)) (hj : l[j]? = some (It.own lo1 hi1 a1 M.o.zs)) (hij : i ≠ j)
    (F1 : Far (It.own lo1 hi1 a1 M.o.zs) (l.eraseIdx j)) (F2 : Far (It.own lo2 hi2 a2 M.n.zs) ((l.set j (It.own lo1 hi1 a1 (from' 1 M.o.zs.length))).eraseIdx i)) (hl1 : w0.heap.size ≤ lo1) (hl2 : w0.heap.size ≤ lo2) (hx1 : M.o.zs.length ≤ 16777216) (hx2 : M.n.zs.length ≤ 16777216) :
    Calls Tryz.prog 14 #[movV M a1 c1 a2 c2, .int .i64 1] w fun e w' => e = .returned (.int .i64 (1 + M.o.zs.length + M.n.zs.length)) ∧ w.heap.size ≤ w'.heap.size ∧ St w0 w' ((l.set j (It.own lo1 hi1 a1 (from' 1 M.o.zs.length))).set i (It.own lo2 hi2 a2 (from' (1 + M.o.zs.length) M.n.zs.length))) := by
  have g1 := (S.all _ (List.mem_of_getElem? hj)).1
  have g2 := (S.all _ (List.mem_of_getElem? hi)).1
  have G1 : hi1 ≤ w.heap.size := g1
  have G2 : hi2 ≤ w.heap.size := g2
  have S0 := S.alloc (movC M a1 c1 a2 c2) 28
  have hil := (List.getElem?_eq_some_iff.1 hi).1
  have hjl := (List.getElem?_eq_some_iff.1 hj).1
  obtain ⟨x0, x1, x2, x3, x4, x5, x6, xz⟩ := facts7 (S0.cells 0 rfl)
  go_enter Tryz.func14, Tryz.ntmps14
  go_wp2_with fail
  clear x0 x1 x2 x3 x4 x5 x6 xz
  refine (markTable_any lo1 M.o.t M.o.p a1 c1 M.o.zs 1 _ (by omega) (by omega) (by omega) (by exact S0.owns (j + 1) (by simpa using hj))).mono ?_
  rintro e w1 ⟨rfl, ho', hg⟩
  have ho : OwnInts w1 lo1 a1 (from' 1 M.o.zs.length) := ho'
  clear ho'
  have S1 := S0.markAt hg ho (j + 1) (by simpa using hj) (by rw [List.eraseIdx_cons_succ]; exact ⟨.inr (by simp [It.own, It.box]; omega), F1⟩) hl1
  have z1 := hg.size
  simp only [World.size_alloc] at z1
  rw [List.set_cons_succ] at S1
  clear S0 ho hg
  obtain ⟨x0, x1, x2, x3, x4, x5, x6, xz⟩ := facts7 (S1.cells 0 rfl)
  have hi2' : (l.set j (It.own lo1 hi1 a1 (from' 1 M.o.zs.length)))[i]? = some (It.own lo2 hi2 a2 M.n.zs) := by rw [List.getElem?_set, if_neg (Ne.symm hij)]; exact hi
  go_wp2_with fail
  clear x0 x1 x2 x3 x4 x5 x6 xz
  refine (markTable_any lo2 M.n.t M.n.p a2 c2 M.n.zs (1 + M.o.zs.length) _ (by omega) (by omega) (by omega) (by exact S1.owns (i + 1) (by simpa using hi2'))).mono ?_
  rintro e w2 ⟨rfl, ho', hg⟩
  have ho : OwnInts w2 lo2 a2 (from' (1 + M.o.zs.length) M.n.zs.length) := ho'
  clear ho'
  have S2 := S1.markAt hg ho (i + 1) (by simpa using hi2') (by rw [List.eraseIdx_cons_succ]; exact ⟨.inr (by simp [It.own, It.box]; omega), F2⟩) hl2
  have z2 := hg.size
  rw [List.set_cons_succ] at S2
  clear S1 ho hg
  go_wp2_with fail
  go_ret
  exact ⟨rfl, by omega, S2.turn fun k hk => List.mem_cons_of_mem _ hk⟩

end Go.Proofs.YtjhdlbcgnhkbhaaGreat

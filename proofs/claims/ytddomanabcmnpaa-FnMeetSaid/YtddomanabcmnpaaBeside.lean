/-
  Two walkers side by side: the iterator.
-/
import Derived.Test.YtddomanabcmnpaaMath
import Derived.Test.YtddomanabcmnpaaPull
import Derived.OwnWalkIn
import Derived.TacticsInMore
import Derived.LoopIn
import Derived.LoopNIn
import Derived.Stop.RegionWithIn
namespace Go.Proofs.Ytddomanabcmnpaa
open Go.RowKit

set_option maxHeartbeats 1000000 in
/-- beside: both are boxed; the function value captures the boxes. -/
theorem beside_any (p q : Option Addr) (w : World) :
    Calls Try.prog 54 #[.pointer p, .pointer q] w fun e w' => e = .returned (.func (.func 58) #[] #[.pointer (some ⟨w.heap.size, 0, none⟩), .pointer (some ⟨w.heap.size + 1, 0, none⟩)]) ∧
      w' = (w.alloc (.cells #[.pointer p] 63)).alloc (.cells #[.pointer q] 63) := by
  go_enter Try.func54, Try.ntmps54
  go_wp2
  go_ret
  exact ⟨rfl, rfl⟩

/-- What one round yields. -/
abbrev encB (N f o s t : Nat) (i : Nat) : Array Value := #[.int .i64 (atW N 0 o f i : Nat), .int .i64 (atW N 0 t s i : Nat)]
/-- One of two blocks is written. -/
def TwoWr (b1 b2 : Nat) (A A' : World) : Prop := A.grownBy A' (some b1) ∨ A.grownBy A' (some b2)

/-- Four blocks lie as they lay. -/
def FourKeep (X1 X2 b1 b2 : Nat) (A A' : World) : Prop := A'.heap[X1]? = A.heap[X1]? ∧ A'.heap[X2]? = A.heap[X2]? ∧ A'.heap[b1]? = A.heap[b1]? ∧ A'.heap[b2]? = A.heap[b2]?
theorem FourKeep.trans {X1 X2 b1 b2 : Nat} {A B C : World} (h : FourKeep X1 X2 b1 b2 A B) (k : FourKeep X1 X2 b1 b2 B C) : FourKeep X1 X2 b1 b2 A C :=
  ⟨k.1.trans h.1, k.2.1.trans h.2.1, k.2.2.1.trans h.2.2.1, k.2.2.2.trans h.2.2.2⟩
theorem FourKeep.of {X1 X2 b1 b2 : Nat} {A A' : World} (h : ∀ k, (k = X1 ∨ k = X2 ∨ k = b1 ∨ k = b2) → A'.heap[k]? = A.heap[k]?) : FourKeep X1 X2 b1 b2 A A' :=
  ⟨h _ (.inl rfl), h _ (.inr (.inl rfl)), h _ (.inr (.inr (.inl rfl))), h _ (.inr (.inr (.inr rfl)))⟩

theorem grownBy_cellOf {A A' : World} {row : Option Nat} (hg : A.grownBy A' row) {X : Nat} {v : Value} (hx : some X ≠ row) (h : A.cell? ⟨X, 0, none⟩ = some v) : A'.cell? ⟨X, 0, none⟩ = some v :=
  (World.cell?_of_block (a := ⟨X, 0, none⟩) (hg.block X (World.block_lt_of_cell? A _ h) hx)).trans h
theorem grownBy_rowOf {A A' : World} {row : Option Nat} (hg : A.grownBy A' row) {X : Nat} {o : Obj} (hx : some X ≠ row) (h : A.heap[X]? = some o) : A'.heap[X]? = some o :=
  (hg.block X (Array.getElem?_eq_some_iff.1 h).1 hx).trans h

theorem one_end {e : Ending} {p q : Prop} (h : (e = .returned (.bool true) ∧ p) ∨ (e = .returned (.bool false) ∧ q)) : ∃ b : Bool, e = .returned (.bool b) ∧ ((b = true ∧ p) ∨ (b = false ∧ q)) := by
  rcases h with ⟨h, hp⟩ | ⟨h, hq⟩
  · exact ⟨true, h, .inl ⟨rfl, hp⟩⟩
  · exact ⟨false, h, .inr ⟨rfl, hq⟩⟩

set_option maxRecDepth 100000 in
set_option maxHeartbeats 4000000 in
theorem beside1_in (n : Nat) (hn : 1 ≤ n) (l X1 X2 b1 b2 N f o s t : Nat) (n1 : 1 ≤ N) (n2 : N ≤ 16) (ho : o ≤ 16) (ht : t ≤ 16) (J Jx : List Nat → World → Prop) (W : World)
    (hJ : ∀ s A A', J s A → TwoWr b1 b2 A A' → J s A')
    (hY : ∀ pre x W1, J pre W1 → pre.length < N → YieldAt Fence.wide (n - 1) Try.prog l (encB N f o s t x) W1 fun e W' =>
      (e = .returned (.bool true) ∧ J (pre ++ [x]) W' ∧ FourKeep X1 X2 b1 b2 W1 W') ∨ (e = .returned (.bool false) ∧ Jx (pre ++ [x]) W'))
    (hX1 : W.cell? ⟨X1, 0, none⟩ = some (.pointer (some ⟨b1, 0, none⟩))) (hX2 : W.cell? ⟨X2, 0, none⟩ = some (.pointer (some ⟨b2, 0, none⟩)))
    (hb1 : W.heap[b1]? = some (.cells (walkC N 0 o f 0) 79 (0, 0))) (hb2 : W.heap[b2]? = some (.cells (walkC N 0 t s 0) 79 (0, 0)))
    (e1 : b1 ≠ b2) (e2 : X1 ≠ b1) (e3 : X1 ≠ b2) (e4 : X2 ≠ b1) (e5 : X2 ≠ b2) (h0 : J [] W) :
    CallsIn Fence.wide n Try.prog 58 #[.func (.yield l) #[] #[], .pointer (some ⟨X1, 0, none⟩), .pointer (some ⟨X2, 0, none⟩)] W fun e W' => (∃ v, e = .returned v) ∧
      ((∃ ys, ys = List.range N ∧ J ys W') ∨ (∃ pre, (∃ k, k ≤ N ∧ List.range k = pre) ∧ Jx pre W')) := by
  refine callsIn_of_wp Try.func58 rfl trivial ?_ rfl
  simp only [Try.ntmps58, List.size_toArray, List.length_cons, List.length_nil, Nat.reduceAdd, Nat.reduceSub, Array.replicate_succ, Array.replicate_zero, List.push_toArray, List.append_toArray, List.nil_append, List.cons_append]
  obtain ⟨y0, y1, y2, y3, y4, y5, y6, y7, yz⟩ := facts4 (show W.heap[b1]? = some (.cells #[wayV 0 o, .int .i64 N, .int .i64 (atW N 0 o f 0 : Nat), .int .i64 (0 : Nat)] 79 (0, 0)) from hb1)
  gi_wp2
  clear y0 y1 y2 y3 y4 y5 y6 y7 yz
  gi_loopw [8] (fun i wr => ∃ k : Nat, k ≤ N ∧ i = .int .i64 k ∧ J (List.range k) wr ∧ wr.heap[b1]? = some (.cells (walkC N 0 o f k) 79 (0, 0)) ∧ wr.heap[b2]? = some (.cells (walkC N 0 t s k) 79 (0, 0)) ∧
      wr.cell? ⟨X1, 0, none⟩ = some (.pointer (some ⟨b1, 0, none⟩)) ∧ wr.cell? ⟨X2, 0, none⟩ = some (.pointer (some ⟨b2, 0, none⟩)))
    (fun i _ => N - (intOf i).toNat)
  case atStart => exact ⟨0, Nat.zero_le _, rfl, h0, hb1, hb2, hX1, hX2⟩
  case round =>
    obtain ⟨k, hk, rfl, hJs, c1, c2, c3, c4⟩ := hrel
    clear hb1 hb2 hX1 hX2 h0
    by_cases hlt : k < N
    · gi_wp2
      have c3' : wr.drew.cell? ⟨X1, 0, none⟩ = some (.pointer (some ⟨b1, 0, none⟩)) := c3
      have c4' : wr.drew.cell? ⟨X2, 0, none⟩ = some (.pointer (some ⟨b2, 0, none⟩)) := c4
      have HJ0 := Lib.hid (hJ _ _ wr.drew hJs (.inl ⟨rfl, rfl, rfl, Nat.le_refl _, fun _ _ _ => rfl⟩))
      have HY := Lib.hid hY
      have HJ := Lib.hid hJ
      clear hJs hY hJ
      gi_region_with (first
        | ((first | refine ⟨fun _ => hn, hRd.mono ?_⟩ | refine ⟨by simp [Fence.wide], hRd.mono ?_⟩ | refine hRd.mono ?_); rintro e w3 HE; obtain ⟨b, rfl, HB⟩ := one_end HE; have HB := Lib.hid HB; clear HE hRd)
        | (have HC := c5r; refine ⟨trivial, ?_⟩; gi_at_call 50; refine (callsIn_wide.2 (pull_any b2 N 0 t s k _ n1 n2 (by omega) ht (by omega) (by exact HC))).mono ?_; rintro e w2 ⟨rfl, g2, h2⟩; have c6 := grownBy_cellOf g2 (by simp; omega) c5x; have c6r := grownBy_rowOf g2 (by simp; omega) h1; have c7 := grownBy_cellOf g2 (by simp; omega) c5; have HJ2 := Lib.hid (HJ.out _ _ _ HJ1.out (.inr g2)); obtain ⟨fn, tmps, assign, body, hy, hRd⟩ := HY.out _ k _ HJ2.out (by simpa using hlt); dsimp only [encB] at hy)
        | (refine ⟨trivial, ?_⟩; gi_at_call 50; refine (callsIn_wide.2 (pull_any b1 N 0 o f k _ n1 n2 (by omega) ho (by omega) (by exact c1))).mono ?_; rintro e w1 ⟨rfl, g1, h1⟩; have c5 := grownBy_cellOf g1 (by simp; omega) c4'; have c5r := grownBy_rowOf g1 (by simp; omega) (show wr.drew.heap[b2]? = _ from c2); have c5x := grownBy_cellOf g1 (by simp; omega) c3'; have HJ1 := Lib.hid (HJ.out _ _ _ HJ0.out (.inl g1))))
      all_goals
        have HR := Lib.hid (List.range_succ (n := k))
        rcases HB.out with ⟨rfl, hJ3, hb3⟩ | ⟨rfl, hx3⟩
        · have k1 := hb3.2.2.1.trans c6r
          have k2 := hb3.2.2.2.trans h2
          have k3 := (World.cell?_of_block (a := ⟨X1, 0, none⟩) hb3.1).trans c6
          have k4 := (World.cell?_of_block (a := ⟨X2, 0, none⟩) hb3.2.1).trans c7
          have KK := Lib.hid (And.intro k1 (And.intro k2 (And.intro k3 k4)))
          have HJ3 := Lib.hid hJ3
          clear k1 k2 k3 k4 hJ3 HB c1 c2 c3 c4 c3' c4' c5 c5r c5x c6 c6r c7 g1 g2 h1 h2 hb3
          gi_wp2
          go_roundw
          case rel => exact ⟨k + 1, by omega, by go_num, by rw [HR.out]; exact HJ3.out, KK.out.1, KK.out.2.1, KK.out.2.2.1, KK.out.2.2.2⟩
          case measure => simp [intOf]; omega
        · clear HB c1 c2 c3 c4 c3' c4' c5 c5r c5x c6 c6r c7 g1 g2 h1 h2
          gi_wp2
          refine bodyPost_ret (results_none rfl _ _ _) rfl ?_
          exact ⟨⟨_, rfl⟩, .inr ⟨_, ⟨k + 1, by omega, HR.out⟩, hx3⟩⟩
    · obtain rfl : k = N := by omega
      gi_wp2
      go_end0
      exact ⟨⟨_, rfl⟩, .inl ⟨_, rfl, hJs⟩⟩

theorem beside_writes (n : Nat) (hn : 1 ≤ n) (X1 X2 b1 b2 B N f o s t : Nat) (n1 : 1 ≤ N) (n2 : N ≤ 16) (ho : o ≤ 16) (ht : t ≤ 16) (w : World)
    (hX1 : w.cell? ⟨X1, 0, none⟩ = some (.pointer (some ⟨b1, 0, none⟩))) (hX2 : w.cell? ⟨X2, 0, none⟩ = some (.pointer (some ⟨b2, 0, none⟩)))
    (hb1 : w.heap[b1]? = some (.cells (walkC N 0 o f 0) 79 (0, 0))) (hb2 : w.heap[b2]? = some (.cells (walkC N 0 t s 0) 79 (0, 0)))
    (d1 : X1 < B) (d2 : X2 < B) (d3 : b1 < B) (d4 : b2 < B) (e1 : b1 ≠ b2) (e2 : X1 ≠ b1) (e3 : X1 ≠ b2) (e4 : X2 ≠ b1) (e5 : X2 ≠ b2) :
    SeqWritesS Fence.wide n Try.prog 58 #[.pointer (some ⟨X1, 0, none⟩), .pointer (some ⟨X2, 0, none⟩)] (encB N f o s t) (TwoWr b1 b2) (FourKeep X1 X2 b1 b2) B N (fun ys => ys = List.range N) (fun pre => ∃ k, k ≤ N ∧ List.range k = pre) w := fun l J Jx W hW hJ hY h0 =>
  beside1_in n hn l X1 X2 b1 b2 N f o s t n1 n2 ho ht J Jx W hJ hY ((World.cell?_of_block (a := ⟨X1, 0, none⟩) (hW.block X1 d1)).trans hX1) ((World.cell?_of_block (a := ⟨X2, 0, none⟩) (hW.block X2 d2)).trans hX2)
    ((hW.block b1 d3).trans hb1) ((hW.block b2 d4).trans hb2) e1 e2 e3 e4 e5 h0

end Go.Proofs.Ytddomanabcmnpaa

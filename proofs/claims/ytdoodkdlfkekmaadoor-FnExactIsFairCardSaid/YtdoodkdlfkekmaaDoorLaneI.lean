/-
  A key sets out from its home; who stands ahead of whom.
-/
import Derived.Test.YtdoodkdlfkekmaaDoorLane
namespace Go.Proofs.YtdoodkdlfkekmaaDoor
open Go.RowKit

/-- A spot as a value. -/
def spotV (x h d : Int) : Value := .agg #[.int .i64 x, .int .i64 h, .int .i64 d]

theorem startOf_any (T : Tab) (a : Option Addr) (c : Nat) (key : Int) (w : World) (hv : validB T = true) (h0 : 0 ≤ key) (h9 : key ≤ 99) (h1 : IntsAt w a T.zs) :
    Calls Tryd.prog 22 #[tabV T a c, .int .i64 key] w fun e w' => e = .returned (spotV key (homeN T key : Nat) 0) ∧ Below w.heap.size w w' := by
  have S0 := (((St.start w).read h1).alloc #[.int .i64 T.t, .int .i64 T.p, .slice a T.zs.length c] 27).alloc #[.int .i64 0, .int .i64 0, .int .i64 0] 45
  rw [World.size_alloc] at S0
  have hh := Lib.hid (homeN_eq hv key)
  obtain ⟨x0, x1, x2, x3, x4, x5, xz⟩ := facts3 (S0.cells 1 rfl)
  go_enter Tryd.func22, Tryd.ntmps22
  go_wp2_with fail
  clear x0 x1 x2 x3 x4 x5 xz
  refine (homeIn_any T a c key _ hv h0 h9).mono ?_
  rw [← hh.out]
  rintro e w1 ⟨rfl, hb⟩
  have S1 := S0.below hb
  clear S0 hb
  obtain ⟨x0, x1, x2, x3, x4, x5, xz⟩ := facts3 (S1.cells 0 rfl)
  have S2 := (S1.turn (l' := []) fun i hi => by cases hi).set3Far (b := w.heap.size + 1) trivial (by omega) (.int .i64 key) (.int .i64 (homeN T key : Nat)) (.int .i64 0)
  go_wp2
  refine bodyPost_ret (v := spotV key (homeN T key : Nat) 0) (by simp [results, Tryd.results22, go_sem, x0, x1, x2, x3, x4, x5, spotV]) rfl ⟨rfl, S2.old⟩

set_option maxHeartbeats 1000000 in
theorem standsAhead_any (x h d y g k : Int) (w : World) :
    Calls Tryd.prog 23 #[spotV x h d, spotV y g k] w fun e w' => e = .returned (.bool (if d = k then decide (x < y) else decide (k < d))) ∧ Below w.heap.size w w' := by
  have S0 := ((St.start w).alloc #[.int .i64 x, .int .i64 h, .int .i64 d] 45).alloc #[.int .i64 y, .int .i64 g, .int .i64 k] 45
  rw [World.size_alloc] at S0
  obtain ⟨x0, x1, x2, x3, x4, x5, xz⟩ := facts3 (S0.cells 1 rfl)
  obtain ⟨y0, y1, y2, y3, y4, y5, yz⟩ := facts3 (S0.cells 0 rfl)
  by_cases e : d = k
  · subst e
    rw [if_pos rfl]
    have b : (d == d) = true := by simp
    unfold spotV
    go_enter Tryd.func23, Tryd.ntmps23
    go_wp2
    go_ret
    exact ⟨rfl, S0.old⟩
  · rw [if_neg e]
    have b : (d == k) = false := beq_eq_false_iff_ne.2 e
    unfold spotV
    go_enter Tryd.func23, Tryd.ntmps23
    go_wp2
    go_ret
    exact ⟨rfl, S0.old⟩

/-- A parameter of many cells is laid. -/
theorem wide_box {P : Program} {ops : Array Oper} {rest : List Oper} {o : Oper} {a : Act} {Q : Exit → Act → World → Prop} {w : World} (hgd : o.guard = none) (ty : TypeId) (x : Operand) (ho : o.op = Op.box ty x) (c : Array Value) (hx : a.eval x = .agg c)
    (h : wpList P ops Q rest (a.put o.dst (.pointer (some ⟨w.heap.size, 0, none⟩))) (w.alloc (.cells c ty))) : wpList P ops Q (o :: rest) a w := by
  refine wide_value hgd _ _ ?_ h
  simp only [execOp, ho, hx]
  simp [Instr.box, Result.andThen, newVar, newRow, Value.cells, go_sem]

end Go.Proofs.YtdoodkdlfkekmaaDoor

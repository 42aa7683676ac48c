/-
  Values of many cells, at the operation: laid, read and written whole, without a look at their cells.
-/
import Derived.Deep.WholeRow
import Derived.Test.YtpncpeokdcolpaaBase
namespace Go.Proofs.Ytpncpeokdcolpaa
open Go.RowKit

section
variable {P : Program} {ops : Array Oper} {rest : List Oper} {o : Oper} {a : Act} {Q : Exit → Act → World → Prop} {w : World}
/-- An operation whose run is known. -/
theorem wide_value (hgd : o.guard = none) (v : Value) (w' : World) (hr : (execOp a.eval o).run P w = .ok (.value v) w') (h : wpList P ops Q rest (a.put o.dst v) w') : wpList P ops Q (o :: rest) a w := by
  refine wpList_plain hgd fun K hK => ?_
  unfold Oper.wp
  rw [hr]
  exact hK _ _ h
theorem wide_skip (hgd : o.guard = none) (w' : World) (hr : (execOp a.eval o).run P w = .ok .skip w') (h : wpList P ops Q rest (a.put o.dst undef) w') : wpList P ops Q (o :: rest) a w := by
  refine wpList_plain hgd fun K hK => ?_
  unfold Oper.wp
  rw [hr]
  exact hK _ _ h

/-- A variable of many cells is made. -/
theorem wide_alloc (hgd : o.guard = none) (ty : TypeId) (ho : o.op = Op.alloc ty) (z : Array Value) (hz : ∀ w, (zeroValue ty).run P w = .ok (.agg z) w)
    (h : wpList P ops Q rest (a.put o.dst (.pointer (some ⟨w.heap.size, 0, none⟩))) (w.alloc (.cells z ty))) : wpList P ops Q (o :: rest) a w := by
  refine wide_value hgd _ _ ?_ h
  simp [execOp, ho, Instr.alloc, hz, Result.andThen, newVar, newRow, Value.cells, go_sem]
/-- A value of many cells is written over a whole block. -/
theorem wide_store (hgd : o.guard = none) (p v : Operand) (ty : TypeId) (ho : o.op = Op.store ty p v) (b : Nat) (t : TypeId) (old cells : Array Value)
    (hp : a.eval p = .pointer (some ⟨b, 0, none⟩)) (hv : a.eval v = .agg cells) (hg : w.heap[b]? = some (.cells old t (0, 0))) (hi : (P.info? ty).map (·.size) = some cells.size)
    (hs : old.size = cells.size) (h1 : cells.all (·.oneCell') = true) (h : wpList P ops Q rest (a.put o.dst undef) (w.setRow b cells)) : wpList P ops Q (o :: rest) a w := by
  refine wide_skip hgd _ ?_ h
  simp [execOp, ho, hp, hv, Instr.storeAt, Instr.sureAddr, run_storeVar_row (P := P) w b t ty old cells hg hi hs h1, Result.andThen]
/-- A value of many cells is read from a whole block. -/
theorem wide_load (hgd : o.guard = none) (p : Operand) (ty : TypeId) (ho : o.op = Op.load ty p) (b : Nat) (t : TypeId) (cells : Array Value) (fr : Nat × Nat) (d : TypeDesc)
    (hp : a.eval p = .pointer (some ⟨b, 0, none⟩)) (hg : w.heap[b]? = some (.cells cells t fr)) (hu : P.underlying ty = some d) (hd : (match d with | .struct _ | .array _ _ => true | _ => false) = true)
    (hi : (P.info? ty).map (·.size) = some cells.size) (h : wpList P ops Q rest (a.put o.dst (.agg cells)) w) : wpList P ops Q (o :: rest) a w := by
  refine wide_value hgd _ _ ?_ h
  simp [execOp, ho, hp, Instr.loadAt, Instr.sureAddr, run_loadVar_row (P := P) w b t ty cells fr d hg hu hd hi, Result.andThen]
end

theorem heap_setRow {w : World} {b : Nat} {c c' : Array Value} {t : TypeId} {fr : Nat × Nat} (h : w.heap[b]? = some (.cells c t fr)) : (w.setRow b c').heap[b]? = some (.cells c' t fr) := by
  simp [World.setRow, Array.getElem?_modify, h]
theorem grownBy_setRow (w : World) (b : Nat) (c : Array Value) : w.grownBy (w.setRow b c) (some b) :=
  ⟨rfl, rfl, rfl, by simp [World.setRow], fun k _ hk => by
    have : b ≠ k := fun e => hk (by rw [e])
    simp [World.setRow, Array.getElem?_modify, this]⟩
/-- A box is written whole. -/
theorem St.setRowAt {w0 w : World} {l : List It} {b : Nat} {c c' : Array Value} {t : TypeId} (h : St w0 w (It.box b c t :: l)) (hf : Far (It.box b c t) l) (hlo : w0.heap.size ≤ b) : St w0 (w.setRow b c') (It.box b c' t :: l) :=
  h.write (i' := It.box b c' t) (grownBy_setRow w b c') (fun k e => by cases e; exact ⟨Nat.le_refl _, Nat.lt_succ_self _⟩) hf hlo (by
    have h0 := (h.all _ List.mem_cons_self).1
    simpa [It.box, World.setRow] using h0) (heap_setRow (h.cells 0 rfl))

end Go.Proofs.Ytpncpeokdcolpaa

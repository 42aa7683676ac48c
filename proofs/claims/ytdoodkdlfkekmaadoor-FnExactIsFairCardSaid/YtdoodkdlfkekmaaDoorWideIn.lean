/-
  Values of many cells, at the operation, inside a fence and in a round.
-/
import Derived.Test.YtdoodkdlfkekmaaDoorWide
import Derived.TacticsInMore
namespace Go.Proofs.YtdoodkdlfkekmaaDoor
open Go.RowKit

section
variable {F : Fence} {n : Nat} {P : Program} {ops : Array Oper} {rest : List Oper} {o : Oper} {a : Act} {Q : Exit → Act → World → Prop} {w : World}
theorem wide_valueIn (hgd : o.guard = none) (hnd : ∀ c, o.op ≠ .defer c) (hab : o.about P w a.eval = none) (v : Value) (w' : World) (hr : (execOp a.eval o).run P w = .ok (.value v) w')
    (h : wpListIn F n P ops Q rest (a.put o.dst v) w') : wpListIn F n P ops Q (o :: rest) a w := by
  refine wpListIn_plain hgd fun K hK => ?_
  unfold Oper.wpIn
  refine ⟨fun f hf => (by rw [hab] at hf; cases hf), ?_⟩
  rw [Oper.semAt_eq _ _ _ hnd, hr]
  exact hK _ _ h
theorem wide_skipIn (hgd : o.guard = none) (hnd : ∀ c, o.op ≠ .defer c) (hab : o.about P w a.eval = none) (w' : World) (hr : (execOp a.eval o).run P w = .ok .skip w')
    (h : wpListIn F n P ops Q rest (a.put o.dst undef) w') : wpListIn F n P ops Q (o :: rest) a w := by
  refine wpListIn_plain hgd fun K hK => ?_
  unfold Oper.wpIn
  refine ⟨fun f hf => (by rw [hab] at hf; cases hf), ?_⟩
  rw [Oper.semAt_eq _ _ _ hnd, hr]
  exact hK _ _ h

theorem wide_allocIn (hgd : o.guard = none) (ty : TypeId) (ho : o.op = Op.alloc ty) (z : Array Value) (hz : ∀ w, (zeroValue ty).run P w = .ok (.agg z) w)
    (h : wpListIn F n P ops Q rest (a.put o.dst (.pointer (some ⟨w.heap.size, 0, none⟩))) (w.alloc (.cells z ty))) : wpListIn F n P ops Q (o :: rest) a w := by
  refine wide_valueIn hgd (fun c e => by rw [ho] at e; cases e) (by simp [Oper.about, ho]) _ _ ?_ h
  simp [execOp, ho, Instr.alloc, hz, Result.andThen, newVar, newRow, Value.cells, go_sem]
theorem wide_storeIn (hgd : o.guard = none) (p v : Operand) (ty : TypeId) (ho : o.op = Op.store ty p v) (b : Nat) (t : TypeId) (old cells : Array Value)
    (hp : a.eval p = .pointer (some ⟨b, 0, none⟩)) (hv : a.eval v = .agg cells) (hg : w.heap[b]? = some (.cells old t (0, 0))) (hi : (P.info? ty).map (·.size) = some cells.size)
    (hs : old.size = cells.size) (h1 : cells.all (·.oneCell') = true) (h : wpListIn F n P ops Q rest (a.put o.dst undef) (w.setRow b cells)) : wpListIn F n P ops Q (o :: rest) a w := by
  refine wide_skipIn hgd (fun c e => by rw [ho] at e; cases e) (by simp [Oper.about, ho]) _ ?_ h
  simp [execOp, ho, hp, hv, Instr.storeAt, Instr.sureAddr, run_storeVar_row (P := P) w b t ty old cells hg hi hs h1, Result.andThen]
theorem wide_loadIn (hgd : o.guard = none) (p : Operand) (ty : TypeId) (ho : o.op = Op.load ty p) (b : Nat) (t : TypeId) (cells : Array Value) (fr : Nat × Nat) (d : TypeDesc)
    (hp : a.eval p = .pointer (some ⟨b, 0, none⟩)) (hg : w.heap[b]? = some (.cells cells t fr)) (hu : P.underlying ty = some d) (hd : (match d with | .struct _ | .array _ _ => true | _ => false) = true)
    (hi : (P.info? ty).map (·.size) = some cells.size) (h : wpListIn F n P ops Q rest (a.put o.dst (.agg cells)) w) : wpListIn F n P ops Q (o :: rest) a w := by
  refine wide_valueIn hgd (fun c e => by rw [ho] at e; cases e) (by simp [Oper.about, ho]) _ _ ?_ h
  simp [execOp, ho, hp, Instr.loadAt, Instr.sureAddr, run_loadVar_row (P := P) w b t ty cells fr d hg hu hd hi, Result.andThen]
/-- The run of such a load. -/
theorem wide_load_run (p : Operand) (ty : TypeId) (ho : o.op = Op.load ty p) (b : Nat) (t : TypeId) (cells : Array Value) (fr : Nat × Nat) (d : TypeDesc)
    (hp : a.eval p = .pointer (some ⟨b, 0, none⟩)) (hg : w.heap[b]? = some (.cells cells t fr)) (hu : P.underlying ty = some d) (hd : (match d with | .struct _ | .array _ _ => true | _ => false) = true)
    (hi : (P.info? ty).map (·.size) = some cells.size) : (execOp a.eval o).run P w = .ok (.value (.agg cells)) w := by
  simp [execOp, ho, hp, Instr.loadAt, Instr.sureAddr, run_loadVar_row (P := P) w b t ty cells fr d hg hu hd hi, Result.andThen]
end

end Go.Proofs.YtdoodkdlfkekmaaDoor

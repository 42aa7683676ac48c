/-
  Arrays of bits: an element by its number; two of them compared.
-/
import Derived.Test.YtddomanabcmnpaaReach
import Derived.ChangeKeysEq
namespace Go.Proofs.Ytddomanabcmnpaa
open Go.RowKit

theorem size_bool (w : World) : (sizeOf 4).run Try.prog w = .ok 1 w := by kernel_rfl
theorem plain_bool : Try.prog.plainKey 4 = true := by kernel_rfl
theorem part_bool {xs : Array Value} {j : Nat} {b : Bool} (h : xs[j]? = some (.bool b)) (w : World) : (part 4 xs j).run Try.prog w = .ok (.bool b) w := run_part_plain w plain_bool h

theorem index_bits {C : Array Value} {j : Nat} {b : Bool} (hj : j < 16) (h : C[j]? = some (.bool b)) (w : World) : (Instr.index 55 (.agg C) (.int .i64 j)).run Try.prog w = .ok (.bool b) w := by
  have h0 : (0 : Int) ≤ (j : Int) ∧ (j : Int) < 16 := by omega
  simp [Instr.index, run_underlying Try.underlying55, asIntOf, h0, go_sem]
  rw [if_pos hj, h]
  rfl

theorem loop_all {l : List Nat} {r : Nat → Bool} {P : Program} {w : World} (f : Nat → Option Bool × PUnit → Sem (ForInStep (Option Bool × PUnit)))
    (h : ∀ j ∈ l, (f j (none, ⟨⟩)).run P w = .ok (if r j then .yield (none, ⟨⟩) else .done (some false, ⟨⟩)) w) :
    (forIn l (none, PUnit.unit) f).run P w = .ok (if l.all r then (none, ⟨⟩) else (some false, ⟨⟩)) w := by
  induction l with
  | nil => rfl
  | cons x l ih =>
    rw [List.forIn_cons, Sem.run_bind, h x List.mem_cons_self]
    cases hr : r x
    · simp [hr, Result.andThen]
    · simp only [if_true, Result.andThen_ok, List.all_cons, hr, Bool.true_and]
      exact ih fun j hj => h j (List.mem_cons_of_mem _ hj)

theorem eqn_bits (d : Nat) {xs ys : Array Value} {p q : Nat → Bool} (hx : ∀ j, j < 16 → xs[j]? = some (.bool (p j))) (hy : ∀ j, j < 16 → ys[j]? = some (.bool (q j))) (w : World) :
    (Op.equalIn (d + 1 + 1) 55 (.agg xs) (.agg ys)).run Try.prog w = .ok ((List.range 16).all fun j => p j == q j) w := by
  rw [Op.equalIn]
  simp only [Sem.run_bind, run_underlying Try.underlying55, Result.andThen_ok, size_bool, Std.Legacy.Range.forIn_eq_forIn_range']
  have hl : ∀ hs, List.range' (Std.Legacy.Range.mk 0 16 1 hs).start (Std.Legacy.Range.mk 0 16 1 hs).size (Std.Legacy.Range.mk 0 16 1 hs).step = List.range 16 := by
    intro hs
    show List.range' 0 ((16 - 0 + 1 - 1) / 1) 1 = List.range 16
    decide
  rw [hl, loop_all (r := fun j => p j == q j)]
  · cases h : (List.range 16).all fun j => p j == q j <;> simp [Result.andThen]
  · intro j hj
    have hj := List.mem_range.1 hj
    simp only [Sem.run_bind, Nat.mul_one, part_bool (hx j hj), part_bool (hy j hj), Result.andThen_ok, run_equalIn_bool w d 4 (p j) (q j) Try.underlying4]
    cases h : (p j == q j) <;> simp

theorem eql_bits {xs ys : Array Value} {p q : Nat → Bool} (hx : ∀ j, j < 16 → xs[j]? = some (.bool (p j))) (hy : ∀ j, j < 16 → ys[j]? = some (.bool (q j))) (w : World) :
    (binOp .eql 55 (.agg xs) (.agg ys)).run Try.prog w = .ok (.bool ((List.range 16).all fun j => p j == q j)) w := by
  rw [run_eql_struct, show (10000 : Nat) = 9998 + 1 + 1 from rfl, eqn_bits 9998 hx hy]
  rfl

end Go.Proofs.Ytddomanabcmnpaa

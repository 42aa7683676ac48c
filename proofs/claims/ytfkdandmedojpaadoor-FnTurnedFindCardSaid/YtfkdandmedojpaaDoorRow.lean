/-
  Rows of integers: the element type, new rows.
-/
import Derived.Test.YtfkdandmedojpaaDoorMarks
import Derived.Laws.CopyOwn
import Derived.Deep.RegionLaw
import Derived.IntWalk
namespace Go.Proofs.YtfkdandmedojpaaDoor
open Go.RowKit

theorem Tryd.info3 : (Tryd.prog.info? 3).map (fun i => (i.zero, i.size, i.bytes)) = some (some (.int .i64 0), 1, 8) := by kernel_rfl

theorem infosz : (Tryd.prog.info? 3).map (·.size) = some 1 := by kernel_rfl

/-- n cells of 0 -/
def zeros (n : Nat) : List Value := List.replicate n (.int .i64 0)

theorem mk_row (n : Nat) (hn : n ≤ 1048576) (w : World) : (Instr.makeSlice 23 (.int .i64 n) (.int .i64 n)).run Tryd.prog w = .ok (.slice (some ⟨w.heap.size, 0, none⟩) n n) (w.alloc (.cells (zeros n).toArray 3)) := by
  obtain ⟨i0, hi, hz0, hz1, hz2⟩ := info_parts Tryd.info3
  have h := run_make (P := Tryd.prog) w 23 3 i0 (.int .i64 0) Tryd.underlying23 hi hz0 .i64 .i64 n n (by omega) (by omega) (by rw [hz2]; omega) (by omega)
  simp only [Int.toNat_natCast] at h
  rw [h, hz1, Nat.mul_one]
  have e : madeCells (Value.int IntKind.i64 0).cells n = (zeros n).toArray := by
    rw [show (Value.int IntKind.i64 0).cells = #[.int .i64 0] from rfl, zeros, ← toList_madeCells_one (.int .i64 0) n]
  rw [e]

theorem src_of {wr : World} {g k n : Nat} {t : TypeId} {cur cs : List Value} {x : Value} (hg : wr.heap[g]? = some (.cells cur.toArray t (0, 0))) (ht : cur.take k = List.replicate k x) (hcs : cs = List.replicate (Nat.min k (n - k)) x) :
    ∀ (j : Nat) (v : Value), cs[j]? = some v → wr.cell? ((⟨g, 0, none⟩ : Addr).add j) = some v := by
  intro j v hj
  have hmin : Nat.min k (n - k) ≤ k := Nat.min_le_left _ _
  rw [hcs, List.getElem?_replicate] at hj
  split at hj
  · rename_i hlt
    cases hj
    have h1 : (cur.take k)[j]? = some x := by rw [ht, List.getElem?_replicate, if_pos (by omega)]
    rw [List.getElem?_take, if_pos (by omega)] at h1
    by_cases h0 : j = 0
    · subst h0; simp [Addr.add, World.cell?, hg, h1]
    · simp [Addr.add, World.cell?, hg, h1, h0]
  · cases hj

theorem take_splice {k n : Nat} {cur cs : List Value} {x : Value} (ht : cur.take k = List.replicate k x) (hcs : cs = List.replicate (Nat.min k (n - k)) x) (hf : k + cs.length ≤ cur.length) :
    (splice cur k cs).take (k + cs.length) = List.replicate (k + cs.length) x := by
  have hl : (cur.take k).length = k := by simp; omega
  rw [splice, ← List.append_assoc, List.take_append_of_le_length (by simp; omega), List.take_of_length_le (by simp; omega), ht]
  have : cs = List.replicate cs.length x := by rw [hcs, List.length_replicate]
  rw [this, List.length_replicate, List.replicate_append_replicate]

theorem cells_rep {w : World} {g n : Nat} {t : TypeId} {v : Int} (hg : w.heap[g]? = some (.cells (List.replicate n (Value.int .i64 v)).toArray t (0, 0))) :
    (∀ j, j < (List.replicate n v).length → w.cell? ⟨g, 0 + j, none⟩ = some (.int .i64 ((List.replicate n v)[j]?.getD 0))) ∧ (∀ j, j < (List.replicate n v).length → w.frozen? ⟨g, 0 + j, none⟩ = false) := by
  refine ⟨fun j hj => ?_, fun j hj => ?_⟩
  · simp only [List.length_replicate] at hj
    simp [World.cell?, hg, hj]
  · simp [World.frozen?, hg]

theorem one_src {w : World} {b : Nat} {v : Value} {o : Obj} (hc : w.cell? ⟨b, 0, none⟩ = some v) : ∀ (j : Nat) (x : Value), [v][j]? = some x → (w.alloc o).cell? ⟨b, j, none⟩ = some x := by
  intro j x hj
  cases j with
  | zero =>
    simp at hj; subst hj
    rw [World.cell?_alloc_past _ _ _ (World.block_lt_of_cell? w _ hc)]; exact hc
  | succ j => simp at hj

end Go.Proofs.YtfkdandmedojpaaDoor

/-
  Runs of the model: l2Runs.
-/
import Derived.Test.YtblkafmamnimjaaGreatDoorMath
import Derived.Test.YtblkafmamnimjaaGreatDoorWay
import Derived.Test.YtblkafmamnimjaaGreatDoorBase
import Derived.Test.YtblkafmamnimjaaGreatDoorPick
namespace Go.Proofs.YtblkafmamnimjaaGreatDoor
open Go.RowKit
/-- The cells of runs. -/
def cellsR (rs : List (Nat × Nat)) : List Value := (rs.map fun r => [Value.int .i64 r.1, Value.int .i64 r.2]).flatten
theorem cellsR_snoc (rs : List (Nat × Nat)) (x y : Nat) : cellsR (rs ++ [(x, y)]) = cellsR rs ++ [Value.int .i64 x, Value.int .i64 y] := by simp [cellsR]

theorem cell_two_new (w : World) (x y : Value) (t : TypeId) : ∀ j u, [x, y][j]? = some u → (w.alloc (.cells #[x, y] t)).cell? ((⟨w.heap.size, 0, none⟩ : Addr).add j) = some u := by
  intro j u hj
  match j, hj with
  | 0, hj =>
    simp at hj
    subst hj
    rw [show (⟨w.heap.size, 0, none⟩ : Addr).add 0 = ⟨w.heap.size, 0, none⟩ by simp [Addr.add], World.cell?_alloc_at _ _ _ _ rfl]
    rfl
  | 1, hj =>
    simp at hj
    subst hj
    rw [show (⟨w.heap.size, 0, none⟩ : Addr).add 1 = ⟨w.heap.size, 1, none⟩ by simp [Addr.add], World.cell?_alloc_at _ _ _ _ rfl]
    rfl

/-- A step that writes a block that no item knows of. -/
theorem St.grown2 {w0 w w' : World} {l : List It} {row : Option Nat} (h : St w0 w l) (hg : w.grownBy w' row) (hr : ∀ k, row = some k → w0.heap.size ≤ k ∧ ∀ i ∈ l, k < i.lo ∨ i.hi ≤ k) : St w0 w' l :=
  ⟨h.old.trans (grownBy_below hg h.old.size (fun k e => (hr k e).1)), fun j hj => by
    have hj' := h.all j hj
    refine ⟨Nat.le_trans hj'.1 hg.size, j.loc w w' hj'.1 hg.size (fun k h1 h2 => hg.block k (by omega) (fun e => ?_)) hj'.2⟩
    have := (hr k e.symm).2 j hj
    omega⟩

theorem St.drewN {w0 w : World} {l : List It} (h : St w0 w l) (n : Nat) : St w0 (w.drewN n) l := h.below (below_drewN (Below.refl _ _) n)
theorem ownsRow_drewN {w : World} {base : Nat} {e : TypeId} {size : Nat} {v : Value} {n : Nat} {xs : List Value} (h : w.ownsRow base e size v n xs) (q : Nat) : (w.drewN q).ownsRow base e size v n xs := h

end Go.Proofs.YtblkafmamnimjaaGreatDoor

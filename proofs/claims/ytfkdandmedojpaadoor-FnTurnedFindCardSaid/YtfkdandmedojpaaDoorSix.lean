/-
  Six cells, in whatever world has them.
-/
import Derived.Test.YtfkdandmedojpaaDoorState
namespace Go.Proofs.YtfkdandmedojpaaDoor
open Go.RowKit

/-- Six cells, in whatever world has them. -/
def Six (b1 b2 : Nat) (x0 x1 x2 y0 y1 y2 : Value) (w : World) : Prop :=
  w.cell? ⟨b1, 0, none⟩ = some x0 ∧ w.cell? ⟨b1, 1, none⟩ = some x1 ∧ w.cell? ⟨b1, 2, none⟩ = some x2 ∧ w.cell? ⟨b2, 0, none⟩ = some y0 ∧ w.cell? ⟨b2, 1, none⟩ = some y1 ∧ w.cell? ⟨b2, 2, none⟩ = some y2

theorem St.six {w0 w : World} {l : List It} {b1 b2 : Nat} {x0 x1 x2 y0 y1 y2 : Value} {t1 t2 : TypeId} (S : St w0 w l) (i j : Nat) (hi : l[i]? = some (It.box b1 #[x0, x1, x2] t1)) (hj : l[j]? = some (It.box b2 #[y0, y1, y2] t2)) : Six b1 b2 x0 x1 x2 y0 y1 y2 w := by
  obtain ⟨a0, a1, a2, _⟩ := facts3 (S.cells i hi)
  obtain ⟨c0, c1, c2, _⟩ := facts3 (S.cells j hj)
  exact ⟨a0, a1, a2, c0, c1, c2⟩

theorem St.three {w0 w : World} {l : List It} {b : Nat} {x y z : Value} {t : TypeId} (S : St w0 w l) (i : Nat) (hi : l[i]? = some (It.box b #[x, y, z] t)) : w.cell? ⟨b, 0, none⟩ = some x ∧ w.cell? ⟨b, 1, none⟩ = some y ∧ w.cell? ⟨b, 2, none⟩ = some z := by
  obtain ⟨a0, a1, a2, _⟩ := facts3 (S.cells i hi)
  exact ⟨a0, a1, a2⟩

theorem keep_set3 {w : World} {b b2 : Nat} (hne : b2 ≠ b) {x y z : Value} {p q s : Option Value} (h : w.cell? ⟨b2, 0, none⟩ = p ∧ w.cell? ⟨b2, 1, none⟩ = q ∧ w.cell? ⟨b2, 2, none⟩ = s) :
    (((w.setCell ⟨b, 0, none⟩ x).setCell ⟨b, 1, none⟩ y).setCell ⟨b, 2, none⟩ z).cell? ⟨b2, 0, none⟩ = p ∧ (((w.setCell ⟨b, 0, none⟩ x).setCell ⟨b, 1, none⟩ y).setCell ⟨b, 2, none⟩ z).cell? ⟨b2, 1, none⟩ = q ∧
      (((w.setCell ⟨b, 0, none⟩ x).setCell ⟨b, 1, none⟩ y).setCell ⟨b, 2, none⟩ z).cell? ⟨b2, 2, none⟩ = s := by
  have e : (((w.setCell ⟨b, 0, none⟩ x).setCell ⟨b, 1, none⟩ y).setCell ⟨b, 2, none⟩ z).heap[b2]? = w.heap[b2]? :=
    (Below.heap_setCell _ _ _ _ hne).trans ((Below.heap_setCell _ _ _ _ hne).trans (Below.heap_setCell _ _ _ _ hne))
  exact ⟨(World.cell?_of_block (a := ⟨b2, 0, none⟩) e).trans h.1, (World.cell?_of_block (a := ⟨b2, 1, none⟩) e).trans h.2.1, (World.cell?_of_block (a := ⟨b2, 2, none⟩) e).trans h.2.2⟩

end Go.Proofs.YtfkdandmedojpaaDoor

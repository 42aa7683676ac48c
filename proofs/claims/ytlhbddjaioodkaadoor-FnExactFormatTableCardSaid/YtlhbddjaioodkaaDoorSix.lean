/-
  Six cells, in whatever world has them.
-/
import Derived.Test.YtlhbddjaioodkaaDoorState
namespace Go.Proofs.YtlhbddjaioodkaaDoor
open Go.RowKit

/-- Six cells, in whatever world has them. -/
def Six (b1 b2 : Nat) (x0 x1 x2 y0 y1 y2 : Value) (w : World) : Prop :=
  w.cell? ⟨b1, 0, none⟩ = some x0 ∧ w.cell? ⟨b1, 1, none⟩ = some x1 ∧ w.cell? ⟨b1, 2, none⟩ = some x2 ∧ w.cell? ⟨b2, 0, none⟩ = some y0 ∧ w.cell? ⟨b2, 1, none⟩ = some y1 ∧ w.cell? ⟨b2, 2, none⟩ = some y2

theorem St.six {w0 w : World} {l : List It} {b1 b2 : Nat} {x0 x1 x2 y0 y1 y2 : Value} {t1 t2 : TypeId} (S : St w0 w l) (i j : Nat) (hi : l[i]? = some (It.box b1 #[x0, x1, x2] t1)) (hj : l[j]? = some (It.box b2 #[y0, y1, y2] t2)) : Six b1 b2 x0 x1 x2 y0 y1 y2 w := by
  obtain ⟨a0, a1, a2, _⟩ := facts3 (S.cells i hi)
  obtain ⟨c0, c1, c2, _⟩ := facts3 (S.cells j hj)
  exact ⟨a0, a1, a2, c0, c1, c2⟩

theorem St.three {w0 w : World} {l : List It} {b : Nat} {x y z : Value} {t : TypeId} (S : St w0 w l) (i : Nat) (hi : l[i]? = some (It.box b #[x, y, z] t)) : w.cell? ⟨b, 0, none⟩ = some x ∧ w.cell? ⟨b, 1, none⟩ = some y ∧ w.cell? ⟨b, 2, none⟩ = some z := by
  obtain ⟨a0, a1, a2, _⟩ := facts3 (S.cells i hi)
  exact ⟨a0, a1, a2⟩

end Go.Proofs.YtlhbddjaioodkaaDoor

/-
  Tables compared: the exact laws' own.
-/
import Derived.Test.YtojmjhojgfopaaaDoorBase
import Derived.Test.YtojmjhojgfopaaaDoorFrame
import Derived.Deep.RegionHeld3
namespace Go.Proofs.YtojmjhojgfopaaaDoor
open Go.RowKit

theorem keep6 {W W' : World} {b1 b2 : Nat} {x0 x1 x2 y0 y1 y2 : Value} (hb : Below W.heap.size W W') (z1 : b1 < W.heap.size) (z2 : b2 < W.heap.size)
    (h : W.cell? ⟨b1, 0, none⟩ = some x0 ∧ W.cell? ⟨b1, 1, none⟩ = some x1 ∧ W.cell? ⟨b1, 2, none⟩ = some x2 ∧ W.cell? ⟨b2, 0, none⟩ = some y0 ∧ W.cell? ⟨b2, 1, none⟩ = some y1 ∧ W.cell? ⟨b2, 2, none⟩ = some y2) :
    W'.cell? ⟨b1, 0, none⟩ = some x0 ∧ W'.cell? ⟨b1, 1, none⟩ = some x1 ∧ W'.cell? ⟨b1, 2, none⟩ = some x2 ∧ W'.cell? ⟨b2, 0, none⟩ = some y0 ∧ W'.cell? ⟨b2, 1, none⟩ = some y1 ∧ W'.cell? ⟨b2, 2, none⟩ = some y2 :=
  ⟨(hb.cell (p := ⟨b1, 0, none⟩) z1).trans h.1, (hb.cell (p := ⟨b1, 1, none⟩) z1).trans h.2.1, (hb.cell (p := ⟨b1, 2, none⟩) z1).trans h.2.2.1,
   (hb.cell (p := ⟨b2, 0, none⟩) z2).trans h.2.2.2.1, (hb.cell (p := ⟨b2, 1, none⟩) z2).trans h.2.2.2.2.1, (hb.cell (p := ⟨b2, 2, none⟩) z2).trans h.2.2.2.2.2⟩

end Go.Proofs.YtojmjhojgfopaaaDoor

/-
  A move as an argument of a law; fourteen cells, in whatever world has them.
-/
import Derived.Test.YtjhdlbcgnhkbhaaGreatDoorMove
import Derived.Test.YtjhdlbcgnhkbhaaGreatDoorLow
namespace Go.Proofs.YtjhdlbcgnhkbhaaGreatDoor
open Go.RowKit

structure MovIn (w : World) (M : Mov) (a1 a2 : Option Addr) : Prop where
  at1 : IntsAt w a1 M.o.zs
  at2 : IntsAt w a2 M.n.zs
  len1 : M.o.zs.length ≤ 9223372036854775807
  len2 : M.n.zs.length ≤ 9223372036854775807

theorem St.behind {w0 w : World} {l' l : List It} (h : St w0 w (l' ++ l)) : St w0 w l := h.turn fun i hi => List.mem_append_right _ hi
theorem St.fourteen {w0 w : World} {l : List It} {b1 b2 : Nat} {x0 x1 x2 x3 x4 x5 x6 y0 y1 y2 y3 y4 y5 y6 : Value} {t1 t2 : TypeId} (S : St w0 w l) (i j : Nat) (hi : l[i]? = some (It.box b1 #[x0, x1, x2, x3, x4, x5, x6] t1)) (hj : l[j]? = some (It.box b2 #[y0, y1, y2, y3, y4, y5, y6] t2)) :
    w.cell? ⟨b1, 0, none⟩ = some x0 ∧ w.cell? ⟨b1, 1, none⟩ = some x1 ∧ w.cell? ⟨b1, 2, none⟩ = some x2 ∧ w.cell? ⟨b1, 3, none⟩ = some x3 ∧ w.cell? ⟨b1, 4, none⟩ = some x4 ∧ w.cell? ⟨b1, 5, none⟩ = some x5 ∧ w.cell? ⟨b1, 6, none⟩ = some x6 ∧
    w.cell? ⟨b2, 0, none⟩ = some y0 ∧ w.cell? ⟨b2, 1, none⟩ = some y1 ∧ w.cell? ⟨b2, 2, none⟩ = some y2 ∧ w.cell? ⟨b2, 3, none⟩ = some y3 ∧ w.cell? ⟨b2, 4, none⟩ = some y4 ∧ w.cell? ⟨b2, 5, none⟩ = some y5 ∧ w.cell? ⟨b2, 6, none⟩ = some y6 := by
  obtain ⟨p0, p1, p2, p3, p4, p5, p6, _⟩ := facts7 (S.cells i hi)
  obtain ⟨q0, q1, q2, q3, q4, q5, q6, _⟩ := facts7 (S.cells j hj)
  exact ⟨p0, p1, p2, p3, p4, p5, p6, q0, q1, q2, q3, q4, q5, q6⟩

end Go.Proofs.YtjhdlbcgnhkbhaaGreatDoor

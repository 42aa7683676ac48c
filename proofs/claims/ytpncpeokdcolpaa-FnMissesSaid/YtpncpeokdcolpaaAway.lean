/-
  AwayOf, of the program and of the model.
-/
import Derived.Test.YtpncpeokdcolpaaBase
import Derived.Test.YtpncpeokdcolpaaMath
import Derived.Deep.RegionHeld3
namespace Go.Proofs.Ytpncpeokdcolpaa
open Go.RowKit

/-- A new block of two cells behind what keeps it. -/
theorem two_new (w : World) (x y : Value) (t : TypeId) : (w.alloc (.cells #[x, y] t)).cell? ⟨w.heap.size, 0, none⟩ = some x ∧ (w.alloc (.cells #[x, y] t)).cell? ⟨w.heap.size, 1, none⟩ = some y := by
  constructor
  · rw [World.cell?_alloc_at _ _ _ _ rfl]; rfl
  · rw [World.cell?_alloc_at _ _ _ _ rfl]; rfl

theorem keep4 {W W' : World} {b1 b2 o : Nat} {x0 x1 x2 y0 : Value} (hb : Below W.heap.size W W') (z1 : b1 < W.heap.size) (z2 : b2 < W.heap.size)
    (h : W.cell? ⟨b1, 0, none⟩ = some x0 ∧ W.cell? ⟨b1, 1, none⟩ = some x1 ∧ W.cell? ⟨b1, 2, none⟩ = some x2 ∧ W.cell? ⟨b2, o, none⟩ = some y0) :
    W'.cell? ⟨b1, 0, none⟩ = some x0 ∧ W'.cell? ⟨b1, 1, none⟩ = some x1 ∧ W'.cell? ⟨b1, 2, none⟩ = some x2 ∧ W'.cell? ⟨b2, o, none⟩ = some y0 :=
  ⟨(hb.cell (p := ⟨b1, 0, none⟩) z1).trans h.1, (hb.cell (p := ⟨b1, 1, none⟩) z1).trans h.2.1, (hb.cell (p := ⟨b1, 2, none⟩) z1).trans h.2.2.1, (hb.cell (p := ⟨b2, o, none⟩) z2).trans h.2.2.2⟩

/-- The box of a table, and its slots, in front of TableValid. -/
theorem tabBox {w : World} {T : Tab} {a : Option Addr} (c : Nat) (t : TypeId) (h1 : IntsAt w a T.zs) : St w (w.alloc (.cells #[.int .i64 T.t, .int .i64 T.p, .slice a T.zs.length c] t)) [It.box w.heap.size #[.int .i64 T.t, .int .i64 T.p, .slice a T.zs.length c] t, It.read w.heap.size a T.zs] :=
  ((St.start w).read h1).alloc _ _

end Go.Proofs.Ytpncpeokdcolpaa

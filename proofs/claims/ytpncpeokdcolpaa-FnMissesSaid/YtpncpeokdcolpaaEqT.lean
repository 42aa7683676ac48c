/-
  Tables compared: the exact laws' own.
-/
import Derived.Test.YtpncpeokdcolpaaBase
import Derived.Test.YtpncpeokdcolpaaFrame
import Derived.Deep.RegionHeld3
namespace Go.Proofs.Ytpncpeokdcolpaa
open Go.RowKit

theorem keep6 {W W' : World} {b1 b2 : Nat} {x0 x1 x2 y0 y1 y2 : Value} (hb : Below W.heap.size W W') (z1 : b1 < W.heap.size) (z2 : b2 < W.heap.size)
    (h : W.cell? ⟨b1, 0, none⟩ = some x0 ∧ W.cell? ⟨b1, 1, none⟩ = some x1 ∧ W.cell? ⟨b1, 2, none⟩ = some x2 ∧ W.cell? ⟨b2, 0, none⟩ = some y0 ∧ W.cell? ⟨b2, 1, none⟩ = some y1 ∧ W.cell? ⟨b2, 2, none⟩ = some y2) :
    W'.cell? ⟨b1, 0, none⟩ = some x0 ∧ W'.cell? ⟨b1, 1, none⟩ = some x1 ∧ W'.cell? ⟨b1, 2, none⟩ = some x2 ∧ W'.cell? ⟨b2, 0, none⟩ = some y0 ∧ W'.cell? ⟨b2, 1, none⟩ = some y1 ∧ W'.cell? ⟨b2, 2, none⟩ = some y2 :=
  ⟨(hb.cell (p := ⟨b1, 0, none⟩) z1).trans h.1, (hb.cell (p := ⟨b1, 1, none⟩) z1).trans h.2.1, (hb.cell (p := ⟨b1, 2, none⟩) z1).trans h.2.2.1,
   (hb.cell (p := ⟨b2, 0, none⟩) z2).trans h.2.2.2.1, (hb.cell (p := ⟨b2, 1, none⟩) z2).trans h.2.2.2.2.1, (hb.cell (p := ⟨b2, 2, none⟩) z2).trans h.2.2.2.2.2⟩

/-- The same table twice. -/
theorem eqTable_same (T : Tab) (a1 a2 : Option Addr) (c1 c2 : Nat) (w : World) (hx : T.zs.length ≤ 1073741824) (h1 : IntsAt w a1 T.zs) (h2 : IntsAt w a2 T.zs) :
    Calls Try.prog 14 #[tabV T a1 c1, tabV T a2 c2] w
      fun e w' => e = .returned (.bool true) ∧ Below w.heap.size w w' := by
  refine (eqTable_any a1 a2 c1 c2 T.t T.p T.t T.p T.zs T.zs w hx hx h1 h2).mono ?_
  rintro e w' ⟨rfl, hb⟩
  exact ⟨by simp, hb⟩

end Go.Proofs.Ytpncpeokdcolpaa

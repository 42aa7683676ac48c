/-
  The reader of drawn bytes: l14Open.
-/
import Derived.Test.YtjhdlbcgnhkbhaaGreatDraw4
namespace Go.Proofs.YtjhdlbcgnhkbhaaGreat
open Go.RowKit

theorem NumsAt.take {k : IntKind} {w : World} {a : Option Addr} {zs : List Int} (h : NumsAt k w a zs) (n : Nat) : NumsAt k w a (zs.take n) := fun h0 => by
  simp only [List.length_take] at h0
  obtain ⟨b, o, e, hc⟩ := h (by omega)
  refine ⟨b, o, e, fun j hj => ?_⟩
  simp only [List.length_take] at hj
  rw [hc j (by omega), List.getElem?_take_of_lt (by omega)]

end Go.Proofs.YtjhdlbcgnhkbhaaGreat

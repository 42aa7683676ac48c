/-
  KeysIn.
-/
import Derived.Test.YtpncpeokdcolpaaDoorLow
import Derived.Test.YtpncpeokdcolpaaDoorMath
import Derived.Test.YtpncpeokdcolpaaDoorShelf2
import Derived.Test.YtpncpeokdcolpaaDoorSort
import Derived.Sort.OwnSortedInts
namespace Go.Proofs.YtpncpeokdcolpaaDoor
open Go.RowKit Go.Shelf
attribute [local go_sem] Oper.semAt_some

/-- A list of integers of the call's own, and a truth. -/
def IntsRes (xs : List Int) (ok : Bool) (w : World) (e : Ending) (w' : World) : Prop :=
  ∃ a c, e = .returned (.tuple #[.slice a xs.length c, .bool ok]) ∧ OwnInts w' w.heap.size a xs ∧ Below w.heap.size w w'

def keysOf (T : Tab) : List Int := if validB T then sortU T.zs else []

theorem ownsRow_weaken {w : World} {base base' : Nat} {e : TypeId} {size : Nat} {v : Value} {n : Nat} {xs : List Value} (h : w.ownsRow base e size v n xs) (hb : base' ≤ base) : w.ownsRow base' e size v n xs := by
  refine ⟨h.1, ?_⟩
  rcases h.2 with hn | ⟨g, cap, cur, hv, hg, rest⟩
  · exact .inl hn
  · exact .inr ⟨g, cap, cur, hv, Nat.le_trans hb hg, rest⟩

/-- Behind an append through a box: a block that is neither the row's nor the box's lies as it lay. -/
theorem KeepBlock.appended {W w1 : World} {B g LB : Nat} {e : TypeId} {v v' : Value} {k : Nat} {xs : List Value} {tmp : Obj} (hrow : W.ownsRow LB e 1 v k xs) (hgrow : (W.alloc tmp).grownBy w1 v.ownBlock) (hg : g < LB) (hgB : g ≠ B) (hgW : g < W.heap.size) :
    KeepBlock g W (w1.setCell ⟨B, 0, none⟩ v') := by
  have hz := hgrow.size
  refine ⟨by simp [World.setCell] at hz ⊢; omega, ?_⟩
  rw [Below.heap_setCell _ _ _ _ hgB, hgrow.block g (by simp; omega) (fun e => by have := (hrow.lt g e.symm).1; omega)]
  exact Below.heap_alloc W tmp g hgW

theorem ownsRow_other {w : World} {base : Nat} {e : TypeId} {size : Nat} {v : Value} {n k : Nat} {xs : List Value} {o : Obj} (h : w.ownsRow base e size v n xs) (hk : w.heap[k]? = some o) (ho : o.isCells = false) : v.ownBlock ≠ some k := by
  intro hv
  rcases h.2 with ⟨rfl, _⟩ | ⟨g, cap, cur, rfl, _, hg, _⟩
  · cases hv
  · cases hv
    rw [hg] at hk
    cases hk
    cases ho

theorem keep_put {W : World} {g l : Nat} {o : Obj} (h : g < l) : (W.putObj l o).heap[g]? = W.heap[g]? := by
  simp [World.putObj, Array.getElem?_setIfInBounds]
  intro e; omega

end Go.Proofs.YtpncpeokdcolpaaDoor

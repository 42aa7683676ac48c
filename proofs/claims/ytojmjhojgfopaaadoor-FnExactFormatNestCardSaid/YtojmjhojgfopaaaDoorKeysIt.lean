/-
  The iterator over the keys of a ring.
-/
import Derived.RangeFuncBox
import Derived.RangeFuncNested
import Derived.RangeFuncBound
import Derived.RangeFuncCalls
import Derived.RangeFuncLeaves
import Derived.Shelf.Abstract
import Derived.OwnWalkIn
import Derived.TacticsInMore
import Derived.LoopNIn
import Derived.LoopIn
import Derived.Maps.AppendAt
import Derived.Test.YtojmjhojgfopaaaDoorBase
import Derived.Test.YtojmjhojgfopaaaDoorMath
namespace Go.Proofs.YtojmjhojgfopaaaDoor
open Go.RowKit Go.Shelf
attribute [local go_sem] Oper.semAt_some

/-- The keys that slots hold, in the order of the slots. -/
def keysL (zs : List Int) : List Int := zs.filter fun x => inB x 0 99
theorem keysL_yes {zs : List Int} {k : Nat} {x : Int} (hk : k < zs.length) (hx : nth zs k = x) (h : inB x 0 99 = true) : keysL (zs.take (k + 1)) = keysL (zs.take k) ++ [x] := by
  have e : zs[k] = x := by simpa [nth, List.getElem?_eq_getElem hk] using hx
  rw [List.take_succ_eq_append_getElem hk, e]
  simp [keysL, List.filter_append, h]
theorem keysL_no {zs : List Int} {k : Nat} {x : Int} (hk : k < zs.length) (hx : nth zs k = x) (h : inB x 0 99 = false) : keysL (zs.take (k + 1)) = keysL (zs.take k) := by
  have e : zs[k] = x := by simpa [nth, List.getElem?_eq_getElem hk] using hx
  rw [List.take_succ_eq_append_getElem hk, e]
  simp [keysL, List.filter_append, h]
theorem keysL_len (zs : List Int) (k : Nat) : (keysL (zs.take k)).length ≤ k := Nat.le_trans (List.length_filter_le _ _) (List.length_take_le _ _)

/-- A block that lies as it lay. -/
def KeepBlock (g : Nat) (A B : World) : Prop := A.heap.size ≤ B.heap.size ∧ B.heap[g]? = A.heap[g]?
theorem KeepBlock.refl (g : Nat) (A : World) : KeepBlock g A A := ⟨Nat.le_refl _, rfl⟩
theorem KeepBlock.trans {g : Nat} {A B C : World} (h : KeepBlock g A B) (k : KeepBlock g B C) : KeepBlock g A C := ⟨Nat.le_trans h.1 k.1, k.2.trans h.2⟩
theorem KeepBlock.alloc {g : Nat} {A B : World} (h : KeepBlock g A B) (hg : g < A.heap.size) (o : Obj) : KeepBlock g A (B.alloc o) := ⟨by have := h.1; simp; omega, (Below.heap_alloc B o g (Nat.lt_of_lt_of_le hg h.1)).trans h.2⟩
theorem KeepBlock.ring {g : Nat} {A B : World} (h : KeepBlock g A B) {T : Tab} (hR : RingAt A g T) : RingAt B g T := fun i hi =>
  ⟨(World.cell?_of_block (a := ⟨g, i * 2, none⟩) h.2).trans (hR i hi).1, (World.cell?_of_block (a := ⟨g, i * 2 + 1, none⟩) h.2).trans (hR i hi).2⟩
theorem KeepBlock.of_below {g : Nat} {A B : World} (h : Below A.heap.size A B) (hg : g < A.heap.size) : KeepBlock g A B := ⟨h.size, h.block g hg⟩

end Go.Proofs.YtojmjhojgfopaaaDoor

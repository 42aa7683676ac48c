/-
  slices.Collect of an iterator over integers that writes a block of others.
-/
import Derived.Test.YtkdkdmjhhgllgaaGreatDoorKeys
import Derived.Test.YtkdkdmjhhgllgaaGreatDoorMath
namespace Go.Proofs.YtkdkdmjhhgllgaaGreatDoor
open Go.RowKit Go.Shelf
attribute [local go_sem] Oper.semAt_some

theorem grow_trans {A B C : World} {g : Nat} {row : Option Nat} (h : A.grownBy B (some g)) (k : B.grownBy C row) (hr : ∀ r, row = some r → r = g ∨ A.heap.size ≤ r) : A.grownBy C (some g) :=
  ⟨k.os.trans h.os, k.tape.trans h.tape, k.output.trans h.output, Nat.le_trans h.size k.size, fun i h1 h2 => (k.block i (Nat.lt_of_lt_of_le h1 h.size) (fun e => by
    rcases hr i e.symm with c | c
    · exact h2 (by rw [c])
    · omega)).trans (h.block i h1 h2)⟩
theorem grow_of_below {A B : World} (h : Below A.heap.size A B) : A.grownBy B none := ⟨h.os, h.tape, h.output, h.size, fun k hk _ => h.block k hk⟩
theorem grow_of_below' {A B : World} {n : Nat} (h : Below n A B) : ∀ k, k < n → B.heap[k]? = A.heap[k]? := h.block
theorem grow_set (A : World) (g o : Nat) (v : Value) : A.grownBy (A.setCell ⟨g, o, none⟩ v) (some g) :=
  ⟨rfl, rfl, rfl, by simp [World.setCell], fun k _ hk => Below.heap_setCell A ⟨g, o, none⟩ v k (fun e => hk (by rw [e]))⟩

/-- What a collected list has: its own memory; and of the rest the block g alone may have been written. -/
def CollectRes (S : List Int → World → Prop) (gs : Nat) (w : World) (e : Ending) (w' : World) : Prop :=
  ∃ a c xs, e = .returned (.slice a xs.length c) ∧ OwnInts w' w.heap.size a xs ∧ S xs w' ∧ w.grownBy w' (some gs)

end Go.Proofs.YtkdkdmjhhgllgaaGreatDoor

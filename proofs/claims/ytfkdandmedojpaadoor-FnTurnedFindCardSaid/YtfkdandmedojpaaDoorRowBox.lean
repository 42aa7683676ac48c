/-
  A table in a block, whose slots are appended one by one.
-/
import Derived.Test.YtfkdandmedojpaaDoorCame
import Derived.Test.YtfkdandmedojpaaDoorMath
namespace Go.Proofs.YtfkdandmedojpaaDoor
open Go.RowKit

structure RowBox (W : World) (B : Nat) (t p : Int) (xs : List Int) (v : Value) (wr : World) : Prop where
  out : wr.heap[B]? = some (.cells #[.int .i64 t, .int .i64 p, v] 25 (0, 0))
  own : wr.ownsRow W.heap.size 3 1 v xs.length (xs.map (Value.int .i64))
  old : Below W.heap.size W wr
  hB : W.heap.size ≤ B

theorem RowBox.start (W : World) (t p : Int) : RowBox W (W.heap.size + 1) t p [] (.slice (some ⟨W.heap.size, 0, none⟩) 0 0) ((W.alloc (.cells #[] 3)).alloc (.cells #[.int .i64 t, .int .i64 p, .slice (some ⟨W.heap.size, 0, none⟩) 0 0] 25)) :=
  ⟨by have := heap_alloc_new (W.alloc (.cells #[] 3)) (.cells #[.int .i64 t, .int .i64 p, .slice (some ⟨W.heap.size, 0, none⟩) 0 0] 25); rw [World.size_alloc] at this; exact this,
   (row_start W).alloc _, ((Below.refl _ _).alloc (Nat.le_refl _) _).alloc (by simp) _, by omega⟩

theorem RowBox.drew {W : World} {B : Nat} {t p : Int} {xs : List Int} {v : Value} {wr : World} (h : RowBox W B t p xs v wr) : RowBox W B t p xs v wr.drew :=
  ⟨h.out, h.own.drew, h.old.drew, h.hB⟩

theorem RowBox.step {W : World} {B : Nat} {t p x : Int} {xs : List Int} {v v' : Value} {wr w1 : World} {o : Obj} (h : RowBox W B t p xs v wr) (hown : w1.ownsRow W.heap.size 3 1 v' (xs.length + 1) (xs.map (Value.int .i64) ++ [.int .i64 x]))
    (hg : (wr.alloc o).grownBy w1 v.ownBlock) : RowBox W B t p (xs ++ [x]) v' (w1.setCell ⟨B, 2, none⟩ v') ∧ w1.heap[B]? = some (.cells #[.int .i64 t, .int .i64 p, v] 25 (0, 0)) := by
  have hn2 := ownsRow_ne h.own h.out (by decide)
  have s2 := (Array.getElem?_eq_some_iff.1 h.out).1
  have e2 : w1.heap[B]? = _ := (hg.block _ (by simp; omega) (Ne.symm hn2)).trans ((Below.heap_alloc wr o _ s2).trans h.out)
  have hz := h.old.size
  refine ⟨⟨setCell_at e2 _ _, ?_, ?_, h.hB⟩, e2⟩
  · rw [List.map_append, List.length_append]
    exact hown.kept (row := some B) ⟨rfl, rfl, rfl, by simp [World.setCell], fun j _ hj => Below.heap_setCell _ _ _ _ (fun e => hj (by rw [e]))⟩ (.inr (ownsRow_ne hown e2 (by decide)))
  · exact (h.old.trans (((Below.refl _ _).alloc (by omega) o).trans (grownBy_below hg (by simp; omega) (fun j hj => (h.own.lt j hj).1)))).setCell h.hB _

theorem tmod_nat (a b : Nat) : (a : Int).tmod (b : Int) = ((a % b : Nat) : Int) := by
  rw [Int.tmod_eq_emod_of_nonneg (by omega)]
  rfl
theorem tmod_back (k n : Nat) (hk : k < n) : ((k : Int) + (n : Int) - 1).tmod (n : Int) = (((k + n - 1) % n : Nat) : Int) := by
  rw [show (k : Int) + (n : Int) - 1 = ((k + n - 1 : Nat) : Int) by omega, tmod_nat]
theorem tmod_next (k n : Nat) : ((k : Int) + 1).tmod (n : Int) = (((k + 1) % n : Nat) : Int) := by
  rw [show (k : Int) + 1 = ((k + 1 : Nat) : Int) by omega, tmod_nat]

theorem turnL_take {zs : List Int} {k : Nat} (hk : k < zs.length) : (turnL zs).take (k + 1) = (turnL zs).take k ++ [nth zs ((k + zs.length - 1) % zs.length)] := by
  rw [List.take_succ_eq_append_getElem (by rw [turnL_len]; exact hk)]
  simp [turnL]

end Go.Proofs.YtfkdandmedojpaaDoor

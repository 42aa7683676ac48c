/-
  KeysIn.
-/
import Derived.Test.YtpncpeokdcolpaaKeysIt
import Derived.Test.YtpncpeokdcolpaaMath
import Derived.Test.YtpncpeokdcolpaaShelf2
import Derived.Test.YtpncpeokdcolpaaSort
import Derived.Sort.OwnSortedInts
namespace Go.Proofs.Ytpncpeokdcolpaa
open Go.RowKit Go.Shelf
attribute [local go_sem] Oper.semAt_some

/-- A list of integers of the call's own, and a truth. -/
def IntsRes (xs : List Int) (ok : Bool) (w : World) (e : Ending) (w' : World) : Prop :=
  ∃ a c, e = .returned (.tuple #[.slice a xs.length c, .bool ok]) ∧ OwnInts w' w.heap.size a xs ∧ Below w.heap.size w w'

def keysOf (T : Tab) : List Int := if validB T then sortU T.zs else []

theorem sortRow_any (base : Nat) (a : Option Addr) (m c : Nat) (xs : List Int) (w : World) (hrow : w.ownsRow base 3 1 (.slice a m c) xs.length (xs.map (Value.int .i64))) (hn : xs.length ≤ 1000) :
    Calls Try.prog 74 #[.slice a xs.length c] w fun e w' => e = .returned (.tuple #[]) ∧
      w'.ownsRow base 3 1 (.slice a xs.length c) xs.length ((xs.mergeSort fun x y => decide (x ≤ y)).map (Value.int .i64)) ∧ w.grownBy w' (Value.slice a m c).ownBlock := by
  rcases hrow.2 with ⟨hv, h0⟩ | ⟨g, cap, cur, hv, hg, hh, h1, h2, h3, ht⟩
  · cases hv
    have : xs = [] := List.eq_nil_of_length_eq_zero h0
    subst this
    refine (Try.slices_Sort_int_none none 0 w).mono ?_
    rintro e w' ⟨rfl, rfl⟩
    exact ⟨rfl, by simpa using hrow, ⟨rfl, rfl, rfl, Nat.le_refl _, fun _ _ _ => rfl⟩⟩
  · cases hv
    refine (Try.slices_Sort_int g 0 c xs w (holds_of_blockI hh (by simpa using ht)) (Array.getElem?_eq_some_iff.1 hh).1 (by omega)).mono ?_
    rintro e w' ⟨rfl, n, os, rfl⟩
    exact ⟨rfl, ownsRow_sortedI (by simp) hg hh h1 h2 h3, grownBy_sortedI _⟩

theorem ownsRow_weaken {w : World} {base base' : Nat} {e : TypeId} {size : Nat} {v : Value} {n : Nat} {xs : List Value} (h : w.ownsRow base e size v n xs) (hb : base' ≤ base) : w.ownsRow base' e size v n xs := by
  refine ⟨h.1, ?_⟩
  rcases h.2 with hn | ⟨g, cap, cur, hv, hg, rest⟩
  · exact .inl hn
  · exact .inr ⟨g, cap, cur, hv, Nat.le_trans hb hg, rest⟩

/-- Behind an append through a box: a block that is neither the row's nor the box's lies as it lay. -/
theorem KeepBlock.appended {W w1 : World} {B g LB : Nat} {e : TypeId} {v v' : Value} {k : Nat} {xs : List Value} {tmp : Obj} (hrow : W.ownsRow LB e 1 v k xs) (hgrow : (W.alloc tmp).grownBy w1 v.ownBlock) (hg : g < LB) (hgB : g ≠ B) (hgW : g < W.heap.size) :
    KeepBlock g W (w1.setCell ⟨B, 0, none⟩ v') := by
  have hz := hgrow.size
  refine ⟨by simp [World.setCell] at hz ⊢; omega, ?_⟩
  rw [Below.heap_setCell _ _ _ _ hgB, hgrow.block g (by simp; omega) (fun e => by have := (hrow.lt g e.symm).1; omega)]
  exact Below.heap_alloc W tmp g hgW

theorem ownsRow_other {w : World} {base : Nat} {e : TypeId} {size : Nat} {v : Value} {n k : Nat} {xs : List Value} {o : Obj} (h : w.ownsRow base e size v n xs) (hk : w.heap[k]? = some o) (ho : o.isCells = false) : v.ownBlock ≠ some k := by
  intro hv
  rcases h.2 with ⟨rfl, _⟩ | ⟨g, cap, cur, rfl, _, hg, _⟩
  · cases hv
  · cases hv
    rw [hg] at hk
    cases hk
    cases ho

theorem keep_put {W : World} {g l : Nat} {o : Obj} (h : g < l) : (W.putObj l o).heap[g]? = W.heap[g]? := by
  simp [World.putObj, Array.getElem?_setIfInBounds]
  intro e; omega

end Go.Proofs.Ytpncpeokdcolpaa

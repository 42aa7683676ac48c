/-
  A row is copied into a new block; a slot of it is written; a table's box is written.
-/
import Derived.Test.YtkdkdmjhhgllgaaGreatDoorLooksAll
import Derived.Deep.AppendLies
namespace Go.Proofs.YtkdkdmjhhgllgaaGreatDoor
open Go.RowKit

theorem setCell_inRow {w : World} {b : Nat} {c : Array Value} {t : TypeId} (h : w.heap[b]? = some (.cells c t (0, 0))) (o : Nat) (v : Value) : (w.setCell ⟨b, o, none⟩ v).heap[b]? = some (.cells (c.setIfInBounds o v) t (0, 0)) := by
  simp [World.setCell, Array.getElem?_modify, h]
theorem St.storeRow {w0 w : World} {l : List It} {lo hi g : Nat} {zs : List Int} (h : St w0 w l) (n i : Nat) (hi' : i < zs.length) (hn : l[n]? = some (It.own lo hi (some ⟨g, 0, none⟩) zs)) (hf : Far (It.own lo hi (some ⟨g, 0, none⟩) zs) (l.eraseIdx n)) (hlo : w0.heap.size ≤ lo) (v : Int) :
    St w0 (w.setCell ⟨g, i, none⟩ (.int .i64 v)) (l.set n (It.own lo hi (some ⟨g, 0, none⟩) (zs.set i v))) := by
  have h5 := (h.owns n hn).set i hi' v
  rw [Nat.zero_add] at h5
  exact h.markAt (a := some ⟨g, 0, none⟩) (w' := w.setCell ⟨g, i, none⟩ (.int .i64 v)) ⟨rfl, rfl, rfl, by simp [World.setCell], fun k _ hk => Below.heap_setCell w ⟨g, i, none⟩ _ k (fun e => hk (by rw [e]; rfl))⟩ h5 n hn hf hlo
/-- A row is copied into a new block: what was known is known still. -/
theorem St.copyRow {w0 X w4 : World} {l : List It} {E g cap n base : Nat} {zs : List Int} (S : St w0 X l) (h0 : w0.heap.size ≤ E) (hE : ∀ i ∈ l, E < i.lo ∨ i.hi ≤ E) (hg : X.grownBy w4 (some E))
    (ho : w4.ownsRow base 3 1 (.slice (some ⟨g, 0, none⟩) n cap) n (zs.map (Value.int .i64))) (hlt : g < w4.heap.size) : St w0 w4 (It.own g (g + 1) (some ⟨g, 0, none⟩) zs :: l) := by
  have h1 := S.grown2 hg (fun k e => by cases e; exact ⟨h0, hE⟩)
  refine h1.add _ hlt ⟨⟨fun p hp => by cases hp; exact ⟨Nat.le_refl _, hlt⟩, (ownsRow_ints ho).2⟩, fun p hp => by cases hp; exact Nat.lt_succ_self _⟩
theorem St.news {w0 X W : World} {l : List It} {lo hi b o : Nat} {zs : List Int} (S : St w0 X l) (n : Nat) (hn : l[n]? = some (It.own lo hi (some ⟨b, o, none⟩) zs)) (hW : Below X.heap.size X W) :
    ∀ (j : Nat) (u : Value), (zs.map (Value.int .i64))[j]? = some u → W.cell? ((⟨b, o, none⟩ : Addr).add j) = some u := by
  intro j u hj
  have hj' : j < zs.length := by have := (List.getElem?_eq_some_iff.1 hj).1; simpa using this
  obtain ⟨b', o', e, h5⟩ := ((S.below hW).ints n hn) (by omega)
  cases e
  rw [List.getElem?_map, List.getElem?_eq_getElem hj'] at hj
  have h6 := h5 j hj'
  rw [List.getElem?_eq_getElem hj'] at h6
  rw [show (⟨b, o, none⟩ : Addr).add j = ⟨b, o + j, none⟩ by simp [Addr.add]]
  exact h6.trans (by simpa using hj)
theorem Far.box {b : Nat} {c c' : Array Value} {t t' : TypeId} {l : List It} (h : Far (It.box b c t) l) : Far (It.box b c' t') l := by
  induction l with
  | nil => trivial
  | cons x l ih => exact ⟨h.1, ih h.2⟩
theorem St.set3Box {w0 w : World} {l : List It} {b : Nat} {x y z : Value} {t : TypeId} (h : St w0 w l) (n : Nat) (hn : l[n]? = some (It.box b #[x, y, z] t)) (hf : Far (It.box b #[x, y, z] t) (l.eraseIdx n)) (hlo : w0.heap.size ≤ b) (x' y' z' : Value) :
    St w0 (((w.setCell ⟨b, 0, none⟩ x').setCell ⟨b, 1, none⟩ y').setCell ⟨b, 2, none⟩ z') (l.set n (It.box b #[x', y', z'] t)) := by
  have hlt : n < l.length := (List.getElem?_eq_some_iff.1 hn).1
  have e0 : ∀ i : It, (l.set n i)[n]? = some i := fun i => by simp [hlt]
  have e1 : ∀ i : It, (l.set n i).eraseIdx n = l.eraseIdx n := fun i => by rw [List.eraseIdx_set_eq]
  have c0 := setCell_inRow (h.cells n hn) 0 x'
  have h1 := h.setBoxAt n hn 0 x' c0 hf hlo
  have c1 := setCell_inRow (h1.cells n (e0 _)) 1 y'
  have h2 := h1.setBoxAt n (e0 _) 1 y' c1 (by rw [e1]; exact hf.box) hlo
  rw [List.set_set] at h2
  have c2 := setCell_inRow (h2.cells n (e0 _)) 2 z'
  have h3 := h2.setBoxAt n (e0 _) 2 z' c2 (by rw [e1]; exact hf.box) hlo
  rw [List.set_set] at h3
  exact h3

end Go.Proofs.YtkdkdmjhhgllgaaGreatDoor

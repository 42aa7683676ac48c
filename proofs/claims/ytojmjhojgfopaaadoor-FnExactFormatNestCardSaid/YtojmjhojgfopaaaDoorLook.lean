/-
  The program's search for a key.
-/
import Derived.Shelf.RegionOpen
import Derived.Test.YtojmjhojgfopaaaDoorAround
import Derived.Test.YtojmjhojgfopaaaDoorPlace
import Derived.Test.YtojmjhojgfopaaaDoorRuns
import Derived.Test.YtojmjhojgfopaaaDoorPick
namespace Go.Proofs.YtojmjhojgfopaaaDoor
open Go.RowKit Go.Shelf
attribute [local go_sem] Oper.semAt_some
/-- Items that lie below B are kept by what a loop over an iterator does besides its body. -/
theorem st_own {β : Type} {B : Nat} {w0 : World} {items : β → List It} {Pp : β → Prop} (hi : ∀ s, ∀ i ∈ items s, i.hi ≤ B) (h0 : w0.heap.size ≤ B) : OwnFrom B (fun s W => (St w0 W (items s) ∧ B ≤ W.heap.size) ∧ Pp s) :=
  fun s A B' row hs hg hr => ⟨⟨hs.1.1.grown2 hg (fun k e => ⟨Nat.le_trans h0 (hr k e).1, fun i h => .inr (Nat.le_trans (hi s i h) (hr k e).1)⟩), Nat.le_trans hs.1.2 hg.size⟩, hs.2⟩
theorem st_put {w0 W : World} {l : List It} {B D : Nat} {o : Obj} (h : St w0 W l) (hi : ∀ i ∈ l, i.hi ≤ B) (h0 : w0.heap.size ≤ B) (hD : B ≤ D) : St w0 (W.putObj D o) l :=
  h.grown2 (grownBy_putObj' W D o) fun k e => by cases e; exact ⟨Nat.le_trans h0 hD, fun i h => .inr (Nat.le_trans (hi i h) hD)⟩
/-- A block of cells is kept likewise. -/
theorem block_own {β : Type} {B : Nat} {P : β → Nat → Prop} {c : β → Array Value} {t : TypeId} {Q : β → Nat → Prop} : OwnFrom B (fun s W => ∃ b, P s b ∧ W.heap[b]? = some (.cells (c s) t (0, 0)) ∧ Q s b) :=
  fun s A B' row ⟨b, h1, h2, h3⟩ hg hr => ⟨b, h1, (hg.block b (Array.getElem?_eq_some_iff.1 h2).1 (fun e => by obtain ⟨_, o, ho, hc⟩ := hr _ e.symm; rw [h2] at ho; cases ho; cases hc)).trans h2, h3⟩

theorem grownBy_setAt (W : World) (p : Addr) (v : Value) : W.grownBy (W.setCell p v) (some p.block) :=
  ⟨rfl, rfl, rfl, by simp [World.setCell], fun k _ hne => Below.heap_setCell W p v k (fun e => hne (by rw [e]))⟩
theorem setCell_two0 {w : World} {b : Nat} {x y : Value} {t : TypeId} (h : w.heap[b]? = some (.cells #[x, y] t (0, 0))) (v : Value) : (w.setCell ⟨b, 0, none⟩ v).heap[b]? = some (.cells #[v, y] t (0, 0)) := by
  simp [World.setCell, Array.getElem?_modify, h]
theorem setCell_one0 {w : World} {b : Nat} {x : Value} {t : TypeId} (h : w.heap[b]? = some (.cells #[x] t (0, 0))) (v : Value) : (w.setCell ⟨b, 0, none⟩ v).heap[b]? = some (.cells #[v] t (0, 0)) := by
  simp [World.setCell, Array.getElem?_modify, h]
/-- One cell of a box that is an item is set. -/
theorem St.setBoxAt {w0 w : World} {l : List It} {b : Nat} {c c' : Array Value} {t : TypeId} (h : St w0 w l) (n : Nat) (hn : l[n]? = some (It.box b c t)) (o : Nat) (v : Value)
    (hc : (w.setCell ⟨b, o, none⟩ v).heap[b]? = some (.cells c' t (0, 0))) (hf : Far (It.box b c t) (l.eraseIdx n)) (hlo : w0.heap.size ≤ b) : St w0 (w.setCell ⟨b, o, none⟩ v) (l.set n (It.box b c' t)) := by
  have h0 := (h.all _ (List.mem_of_getElem? hn)).1
  have h1 : St w0 w (It.box b c t :: l.eraseIdx n) := h.turn fun i hi => by
    rcases List.mem_cons.1 hi with rfl | hi
    · exact List.mem_of_getElem? hn
    · exact List.mem_of_mem_eraseIdx hi
  refine (h1.write (i' := It.box b c' t) (grownBy_setAt w _ v) (fun k e => by cases e; exact ⟨Nat.le_refl _, Nat.lt_succ_self _⟩) hf hlo (by simpa [It.box, World.setCell] using h0) hc).turn fun i hi => ?_
  obtain ⟨k, hk⟩ := List.getElem?_of_mem hi
  rw [List.getElem?_set] at hk
  split at hk
  · split at hk
    · cases hk; exact List.mem_cons_self ..
    · cases hk
  · rename_i hne
    refine List.mem_cons_of_mem _ ?_
    rw [List.mem_eraseIdx_iff_getElem?]
    exact ⟨k, Ne.symm hne, hk⟩

/-- The box of a table and a box of one cell. -/
theorem St.four {w0 w : World} {l : List It} {b1 b2 : Nat} {x y z u : Value} {t1 t2 : TypeId} (h : St w0 w l) (n m : Nat) (hn : l[n]? = some (It.box b1 #[x, y, z] t1)) (hm : l[m]? = some (It.box b2 #[u] t2)) :
    w.cell? ⟨b1, 0, none⟩ = some x ∧ w.cell? ⟨b1, 1, none⟩ = some y ∧ w.cell? ⟨b1, 2, none⟩ = some z ∧ w.cell? ⟨b2, 0, none⟩ = some u :=
  let f := facts3 (h.cells n hn)
  ⟨f.1, f.2.1, f.2.2.1, (facts1 (h.cells m hm)).1⟩

end Go.Proofs.YtojmjhojgfopaaaDoor

/-
  What chapter 1's draws make: l1Keys.
-/
import Derived.Test.YtdoodkdlfkekmaaDoorDraw1
namespace Go.Proofs.YtdoodkdlfkekmaaDoor
open Go.RowKit

/-- An append to the row. -/
theorem St.append {w0 w w1 : World} {l : List It} {lo hi : Nat} {v v' : Value} {xs : List Int} {x : Int} (h : St w0 w (It.row lo hi v xs :: l)) (hf : Far (It.row lo hi v xs) l) (hlo : w0.heap.size ≤ lo) (o : Obj)
    (hown : w1.ownsRow lo 3 1 v' (xs.length + 1) (xs.map (Value.int .i64) ++ [.int .i64 x])) (hg : (w.alloc o).grownBy w1 v.ownBlock) : St w0 w1 (It.row lo w1.heap.size v' (xs ++ [x]) :: l) := by
  have h1 := h.below ((Below.refl _ w).alloc (Nat.le_refl _) o)
  have h2 := (h1.get 0 rfl : (It.row lo hi v xs).P _)
  refine h1.write hg (fun k e => ⟨(h2.1.lt k e).1, h2.2 k e⟩) hf hlo (Nat.le_refl _) ⟨?_, fun k e => (hown.lt k e).2⟩
  simpa using hown

theorem St.pull {w0 w : World} {x i j : It} {l : List It} (h : St w0 w (i :: j :: x :: l)) : St w0 w (x :: i :: j :: l) :=
  h.turn fun k hk => by
    simp only [List.mem_cons] at hk ⊢
    rcases hk with h | h | h | h
    · exact .inr (.inr (.inl h))
    · exact .inl h
    · exact .inr (.inl h)
    · exact .inr (.inr (.inr h))

/-- An empty row. -/
theorem row_start (w : World) : (w.alloc (.cells #[] 3)).ownsRow w.heap.size 3 1 (.slice (some ⟨w.heap.size, 0, none⟩) 0 0) 0 [] :=
  World.ownsRow_made (w := w) (base := w.heap.size) (e := 3) (size := 1) #[] 0 (Nat.le_refl _) (by unfold maxLen; omega) rfl

theorem Far.of_lo {i j : It} {l : List It} (h : Far i l) (e : j.lo = i.lo) (hl : ∀ k ∈ l, k.hi ≤ i.lo) : Far j l := by
  induction l with
  | nil => trivial
  | cons x l ih => exact ⟨.inl (by rw [e]; exact hl x (List.mem_cons_self ..)), ih h.2 fun k hk => hl k (List.mem_cons_of_mem _ hk)⟩

/-- Keys of a list. -/
def KeysB (xs : List Int) : Prop := ∀ x ∈ xs, 0 ≤ x ∧ x ≤ 99
theorem KeysB.snoc {xs : List Int} {x : Int} (h : KeysB xs) (h0 : 0 ≤ x) (h1 : x ≤ 99) : KeysB (xs ++ [x]) := by
  intro y hy
  rcases List.mem_append.1 hy with hy | hy
  · exact h y hy
  · simp at hy; subst hy; exact ⟨h0, h1⟩

end Go.Proofs.YtdoodkdlfkekmaaDoor

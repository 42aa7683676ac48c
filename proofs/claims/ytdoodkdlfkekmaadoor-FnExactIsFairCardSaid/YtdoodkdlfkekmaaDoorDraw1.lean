/-
  What chapter 1's draws make: num, l1Empty.
-/
import Derived.Test.YtdoodkdlfkekmaaDoorPick
import Derived.Test.YtdoodkdlfkekmaaDoorBase
namespace Go.Proofs.YtdoodkdlfkekmaaDoor
open Go.RowKit
/-- A block of integers reads as a slice. -/
theorem ints_of_box {w : World} {b : Nat} {t : TypeId} (xs : List Int) (h : w.heap[b]? = some (.cells (xs.map (Value.int .i64)).toArray t (0, 0))) : OwnInts w b (some ⟨b, 0, none⟩) xs :=
  ⟨fun p hp => by cases hp; exact ⟨Nat.le_refl _, (Array.getElem?_eq_some_iff.1 h).1⟩, fun _ => ⟨b, 0, rfl, fun j hj => by simp [World.cell?, h, hj], fun j _ => by simp [World.frozen?, h]⟩⟩

/-- A slice literal that has just been made. -/
theorem St.lit {w0 w : World} {l : List It} (h : St w0 w l) (xs : List Int) (t : TypeId) : St w0 (w.alloc (.cells (xs.map (Value.int .i64)).toArray t)) (It.own w.heap.size (w.heap.size + 1) (some ⟨w.heap.size, 0, none⟩) xs :: l) :=
  (h.below ((Below.refl _ _).alloc (Nat.le_refl _) _)).add _ (by simp [It.own]) ⟨ints_of_box xs (heap_alloc_new w _), fun p hp => by cases hp; simp⟩

theorem Far.add {i j : It} {l : List It} (h : Far i l) (h1 : j.hi ≤ i.lo ∨ i.hi ≤ j.lo) : Far i (j :: l) := ⟨h1, h⟩

theorem nth_all {xs : List Int} {P : Int → Prop} (h : ∀ x ∈ xs, P x) {i : Nat} (hi : i < xs.length) : P (nth xs i) := by
  rw [nth, List.getElem?_eq_getElem hi]
  exact h _ (List.getElem_mem hi)

theorem St.sz {w0 w : World} {l : List It} (h : St w0 w l) (n : Nat) {i : It} (hi : l[n]? = some i) : i.hi ≤ w.heap.size := (h.all i (List.mem_of_getElem? hi)).1

/-- What lay there before a block was made is far from it. -/
theorem Far.older {w0 w : World} {l l' : List It} (S : St w0 w l) {i : It} (hl : ∀ j ∈ l', j ∈ l) (hi : w.heap.size ≤ i.lo) : Far i l' := by
  induction l' with
  | nil => trivial
  | cons j l' ih => exact ⟨.inl (Nat.le_trans (S.all j (hl j (List.mem_cons_self ..))).1 hi), ih fun k hk => hl k (List.mem_cons_of_mem _ hk)⟩

theorem St.set3Far {w0 w : World} {l : List It} {b : Nat} (h : St w0 w l) (hf : Far (It.box b #[] 0) l) (hlo : w0.heap.size ≤ b) (x y z : Value) :
    St w0 (((w.setCell ⟨b, 0, none⟩ x).setCell ⟨b, 1, none⟩ y).setCell ⟨b, 2, none⟩ z) l :=
  ((h.setFar (p := ⟨b, 0, none⟩) hf hlo x).setFar (p := ⟨b, 1, none⟩) hf hlo y).setFar (p := ⟨b, 2, none⟩) hf hlo z

theorem St.push {w0 w : World} {x i j : It} {l : List It} (h : St w0 w (x :: i :: j :: l)) : St w0 w (i :: j :: x :: l) :=
  h.turn fun k hk => by
    simp only [List.mem_cons] at hk ⊢
    rcases hk with h | h | h | h
    · exact .inr (.inl h)
    · exact .inr (.inr (.inl h))
    · exact .inl h
    · exact .inr (.inr (.inr h))

/-- A row of integers that is appended to: its blocks lie from lo on. -/
def It.row (lo hi : Nat) (v : Value) (xs : List Int) : It where
  lo := lo
  hi := hi
  P := fun w => w.ownsRow lo 3 1 v xs.length (xs.map (Value.int .i64)) ∧ ∀ k, v.ownBlock = some k → k < hi
  loc := fun w w' _ _ h hp => by
    refine ⟨⟨hp.1.1, ?_⟩, hp.2⟩
    rcases hp.1.2 with hn | ⟨g, cap, cur, rfl, hb, hg, rest⟩
    · exact .inl hn
    · exact .inr ⟨g, cap, cur, rfl, hb, (h g hb (hp.2 g rfl)).trans hg, rest⟩

theorem St.rows {w0 w : World} {l : List It} {lo hi : Nat} {v : Value} {xs : List Int} (h : St w0 w l) (n : Nat) (hi' : l[n]? = some (It.row lo hi v xs)) : w.ownsRow lo 3 1 v xs.length (xs.map (Value.int .i64)) := (h.get n hi').1

end Go.Proofs.YtdoodkdlfkekmaaDoor

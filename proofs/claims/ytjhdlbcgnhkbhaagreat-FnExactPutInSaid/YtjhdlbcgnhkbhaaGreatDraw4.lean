/-
  What chapter 1's draws make: l1Some.
-/
import Derived.Test.YtjhdlbcgnhkbhaaGreatDraw3
import Derived.Deep.RegionHeld3
import Derived.Deep.AppendLies
namespace Go.Proofs.YtjhdlbcgnhkbhaaGreat
open Go.RowKit

/-- What a drawn table is like. -/
structure DrawnB (T : Tab) : Prop where
  len : 1 ≤ T.zs.length ∧ T.zs.length ≤ 17
  t : -1 ≤ T.t ∧ T.t ≤ 16
  p : -1 ≤ T.p ∧ T.p ≤ 16
  zs : ∀ x ∈ T.zs, -3 ≤ x ∧ x ≤ 100

theorem set_all {zs : List Int} {P : Int → Prop} {x : Int} (h : ∀ y ∈ zs, P y) (i : Nat) (hx : P x) : ∀ y ∈ zs.set i x, P y := by
  intro y hy
  rcases List.mem_or_eq_of_mem_set hy with h2 | rfl
  · exact h y h2
  · exact hx

/-- A store into a block of cells. -/
theorem St.setBox {w0 w : World} {l : List It} {b : Nat} {c : Array Value} {t : TypeId} (h : St w0 w (It.box b c t :: l)) (o : Nat) (v : Value) (hf : Far (It.box b c t) l) (hlo : w0.heap.size ≤ b) : St w0 (w.setCell ⟨b, o, none⟩ v) (It.box b (c.setIfInBounds o v) t :: l) := by
  refine h.write (row := some b) ⟨rfl, rfl, rfl, by simp [World.setCell], fun k _ hk => Below.heap_setCell w _ _ k (fun e => hk (by rw [e]))⟩ (fun k e => by cases e; exact ⟨Nat.le_refl _, Nat.lt_succ_self _⟩) hf hlo ?_ (setCell_at (h.cells 0 rfl) o v)
  have h3 : b + 1 ≤ w.heap.size := h.sz 0 rfl
  show b + 1 ≤ (w.setCell _ _).heap.size
  simpa [World.setCell] using h3

theorem pull_row {w0 w : World} {l : List It} {i j k m n o : It} (h : St w0 w (i :: j :: k :: m :: n :: o :: l)) : St w0 w (n :: i :: j :: m :: o :: l) := h.turn fun x hx => by
  simp only [List.mem_cons] at hx ⊢
  rcases hx with h | h | h | h | h | h
  · exact .inr (.inr (.inr (.inr (.inl h))))
  · exact .inl h
  · exact .inr (.inl h)
  · exact .inr (.inr (.inr (.inl h)))
  · exact .inr (.inr (.inr (.inr (.inr (.inl h)))))
  · exact .inr (.inr (.inr (.inr (.inr (.inr h)))))

theorem own_at {w : World} {base b o : Nat} {zs : List Int} (h : OwnInts w base (some ⟨b, o, none⟩) zs) {i : Nat} (hi : i < zs.length) : w.cell? ⟨b, o + i, none⟩ = some (.int .i64 (zs[i]?.getD 0)) ∧ w.frozen? ⟨b, o + i, none⟩ = false := by
  obtain ⟨_, _, e, hc, hf⟩ := h.2 (by omega)
  cases e
  exact ⟨hc i hi, hf i hi⟩

theorem snoc_all {zs : List Int} {P : Int → Prop} {x : Int} (h : ∀ y ∈ zs, P y) (hx : P x) : ∀ y ∈ zs ++ [x], P y := by
  intro y hy
  rcases List.mem_append.1 hy with h2 | h2
  · exact h y h2
  · simp at h2; subst h2; exact hx

theorem drawn_of {T : Tab} (n1 : 1 ≤ T.zs.length) (n2 : T.zs.length ≤ 17) (t1 : -1 ≤ T.t) (t2 : T.t ≤ 16) (q1 : -1 ≤ T.p) (q2 : T.p ≤ 16) (h : ∀ x ∈ T.zs, -3 ≤ x ∧ x ≤ 100) : DrawnB T := ⟨⟨n1, n2⟩, ⟨t1, t2⟩, ⟨q1, q2⟩, h⟩

end Go.Proofs.YtjhdlbcgnhkbhaaGreat

/-
  The iterator around a ring.
-/
import Derived.Test.YtojmjhojgfopaaaDoorKeysIt
import Derived.Test.YtojmjhojgfopaaaDoorMath
import Derived.Test.YtojmjhojgfopaaaDoorHome
namespace Go.Proofs.YtojmjhojgfopaaaDoor
open Go.RowKit Go.Shelf
attribute [local go_sem] Oper.semAt_some

/-- The blocks of a range lie as they lay. -/
def KeepRange (lo hi : Nat) (A B : World) : Prop := A.heap.size ≤ B.heap.size ∧ ∀ k, lo ≤ k → k < hi → B.heap[k]? = A.heap[k]?
theorem KeepRange.refl (lo hi : Nat) (A : World) : KeepRange lo hi A A := ⟨Nat.le_refl _, fun _ _ _ => rfl⟩
theorem KeepRange.trans {lo hi : Nat} {A B C : World} (h : KeepRange lo hi A B) (k : KeepRange lo hi B C) : KeepRange lo hi A C := ⟨Nat.le_trans h.1 k.1, fun i h1 h2 => (k.2 i h1 h2).trans (h.2 i h1 h2)⟩
theorem KeepRange.below {lo hi : Nat} {A B C : World} (h : KeepRange lo hi A B) (hb : Below B.heap.size B C) (hh : hi ≤ A.heap.size) : KeepRange lo hi A C := h.trans ⟨hb.size, fun k _ h2 => hb.block k (by have := h.1; omega)⟩
theorem KeepRange.set {lo hi : Nat} {A B : World} (h : KeepRange lo hi A B) {p : Addr} (hp : p.block < lo ∨ hi ≤ p.block) (v : Value) : KeepRange lo hi A (B.setCell p v) :=
  h.trans ⟨by simp [World.setCell], fun k h1 h2 => Below.heap_setCell B p v k (by omega)⟩
theorem KeepRange.cell {lo hi : Nat} {A B : World} (h : KeepRange lo hi A B) {b o : Nat} {v : Value} (h1 : lo ≤ b) (h2 : b < hi) (hc : A.cell? ⟨b, o, none⟩ = some v) : B.cell? ⟨b, o, none⟩ = some v :=
  (World.cell?_of_block (a := ⟨b, o, none⟩) (h.2 b h1 h2)).trans hc
theorem KeepRange.ring {lo hi : Nat} {A B : World} (h : KeepRange lo hi A B) {g : Nat} {T : Tab} (h1 : lo ≤ g) (h2 : g < hi) (hR : RingAt A g T) : RingAt B g T := fun i hi' =>
  ⟨h.cell h1 h2 (hR i hi').1, h.cell h1 h2 (hR i hi').2⟩
theorem keepRange_b {lo hi : Nat} {w : World} (hw : hi ≤ w.heap.size) (W : World) (l : Nat) (o o' : Obj) (hl : w.heap.size ≤ l) (_ : W.heap[l]? = some o) (_ : o.isCells = false) (_ : o.isWalk = false) : KeepRange lo hi W (W.putObj l o') :=
  ⟨by simp, fun _ _ h2 => keep_put' (by omega)⟩
where
  keep_put' {W : World} {g l : Nat} {o : Obj} (h : g < l) : (W.putObj l o).heap[g]? = W.heap[g]? := by
    simp [World.putObj, Array.getElem?_setIfInBounds]
    intro e; omega

/-- What one step yields. -/
abbrev encS (T : Tab) (h : Nat) (i : Nat) : Array Value := #[.int .i64 (stepS T h i), .agg #[.int .i64 (nth T.zs (stepS T h i)), .int .i64 (homeT T (nth T.zs (stepS T h i)))]]

/-- One step of a way as the program counts it. -/
theorem step_cast' (T : Tab) (h j : Nat) : ((h : Int) + (j : Int)) % (T.zs.length : Int) = (stepS T h j : Int) := by
  simp [stepS]

end Go.Proofs.YtojmjhojgfopaaaDoor

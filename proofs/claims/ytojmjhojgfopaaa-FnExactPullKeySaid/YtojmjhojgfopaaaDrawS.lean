/-
  What chapter 1 draws as arguments: DrawSameTable.
-/
import Derived.Test.YtojmjhojgfopaaaCopy
import Derived.Test.YtojmjhojgfopaaaOpenC
namespace Go.Proofs.Ytojmjhojgfopaaa
open Go.RowKit

/-- Two tables of the call's own. -/
def TwoTabs (w0 : World) (l : List It) (e : Ending) (w' : World) : Prop :=
  ∃ (A B : Tab) (a b : Option Addr) (c d lo hi lo2 hi2 : Nat), e = .returned (.tuple #[tabV A a c, tabV B b d]) ∧ (1 ≤ A.zs.length ∧ A.zs.length ≤ 17) ∧ (1 ≤ B.zs.length ∧ B.zs.length ≤ 17) ∧
    St w0 w' (It.own lo hi a A.zs :: It.own lo2 hi2 b B.zs :: l)

theorem St.storeOwn {w0 w : World} {l : List It} {lo hi g : Nat} {zs : List Int} (h : St w0 w l) (n i : Nat) (hi' : i < zs.length) (hn : l[n]? = some (It.own lo hi (some ⟨g, 0, none⟩) zs)) (hf : Far (It.own lo hi (some ⟨g, 0, none⟩) zs) (l.eraseIdx n)) (hlo : w0.heap.size ≤ lo) (v : Int) :
    St w0 (w.setCell ⟨g, i, none⟩ (.int .i64 v)) (l.set n (It.own lo hi (some ⟨g, 0, none⟩) (zs.set i v))) := by
  have h5 := (h.owns n hn).set i hi' v
  rw [Nat.zero_add] at h5
  exact h.markAt (a := some ⟨g, 0, none⟩) (w' := w.setCell ⟨g, i, none⟩ (.int .i64 v)) ⟨rfl, rfl, rfl, by simp [World.setCell], fun k _ hk => Below.heap_setCell w ⟨g, i, none⟩ _ k (fun e => hk (by rw [e]; rfl))⟩ h5 n hn hf hlo

theorem St.set6 {w0 w : World} {l : List It} {b b2 : Nat} (h : St w0 w l) (hf : Far (It.box b #[] 0) l) (hf2 : Far (It.box b2 #[] 0) l) (hlo : w0.heap.size ≤ b) (hlo2 : w0.heap.size ≤ b2) (x y z x' y' z' : Value) :
    St w0 ((((((w.setCell ⟨b, 0, none⟩ x).setCell ⟨b, 1, none⟩ y).setCell ⟨b, 2, none⟩ z).setCell ⟨b2, 0, none⟩ x').setCell ⟨b2, 1, none⟩ y').setCell ⟨b2, 2, none⟩ z') l :=
  (h.set3Far hf hlo x y z).set3Far hf2 hlo2 x' y' z'

end Go.Proofs.Ytojmjhojgfopaaa

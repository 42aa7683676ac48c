/-
  Draws of tables, and copies of them.
-/
import Derived.Test.YtdoodkdlfkekmaaDoorDraw3
import Derived.Deep.RegionHeld3
import Derived.Deep.AppendLies
import Derived.Test.YtdoodkdlfkekmaaDoorBase
namespace Go.Proofs.YtdoodkdlfkekmaaDoor
open Go.RowKit

/-- What a drawn table is like. -/
structure DrawnB (T : Tab) : Prop where
  len : 1 ≤ T.zs.length ∧ T.zs.length ≤ 17
  t : -1 ≤ T.t ∧ T.t ≤ 16
  p : -1 ≤ T.p ∧ T.p ≤ 16
  zs : ∀ x ∈ T.zs, -3 ≤ x ∧ x ≤ 100

theorem set_all {zs : List Int} {P : Int → Prop} {x : Int} (h : ∀ y ∈ zs, P y) (i : Nat) (hx : P x) : ∀ y ∈ zs.set i x, P y := by
  intro y hy
  rcases List.mem_or_eq_of_mem_set hy with h2 | rfl
  · exact h y h2
  · exact hx

/-- A store into a block of cells. -/
theorem St.setBox {w0 w : World} {l : List It} {b : Nat} {c : Array Value} {t : TypeId} (h : St w0 w (It.box b c t :: l)) (o : Nat) (v : Value) (hf : Far (It.box b c t) l) (hlo : w0.heap.size ≤ b) : St w0 (w.setCell ⟨b, o, none⟩ v) (It.box b (c.setIfInBounds o v) t :: l) := by
  refine h.write (row := some b) ⟨rfl, rfl, rfl, by simp [World.setCell], fun k _ hk => Below.heap_setCell w _ _ k (fun e => hk (by rw [e]))⟩ (fun k e => by cases e; exact ⟨Nat.le_refl _, Nat.lt_succ_self _⟩) hf hlo ?_ (setCell_at (h.cells 0 rfl) o v)
  have h3 : b + 1 ≤ w.heap.size := h.sz 0 rfl
  show b + 1 ≤ (w.setCell _ _).heap.size
  simpa [World.setCell] using h3

theorem pull_row {w0 w : World} {l : List It} {i j k m n o : It} (h : St w0 w (i :: j :: k :: m :: n :: o :: l)) : St w0 w (n :: i :: j :: m :: o :: l) := h.turn fun x hx => by
  simp only [List.mem_cons] at hx ⊢
  rcases hx with h | h | h | h | h | h
  · exact .inr (.inr (.inr (.inr (.inl h))))
  · exact .inl h
  · exact .inr (.inl h)
  · exact .inr (.inr (.inr (.inl h)))
  · exact .inr (.inr (.inr (.inr (.inr (.inl h)))))
  · exact .inr (.inr (.inr (.inr (.inr (.inr h)))))

theorem own_at {w : World} {base b o : Nat} {zs : List Int} (h : OwnInts w base (some ⟨b, o, none⟩) zs) {i : Nat} (hi : i < zs.length) : w.cell? ⟨b, o + i, none⟩ = some (.int .i64 (zs[i]?.getD 0)) ∧ w.frozen? ⟨b, o + i, none⟩ = false := by
  obtain ⟨_, _, e, hc, hf⟩ := h.2 (by omega)
  cases e
  exact ⟨hc i hi, hf i hi⟩

theorem snoc_all {zs : List Int} {P : Int → Prop} {x : Int} (h : ∀ y ∈ zs, P y) (hx : P x) : ∀ y ∈ zs ++ [x], P y := by
  intro y hy
  rcases List.mem_append.1 hy with h2 | h2
  · exact h y h2
  · simp at h2; subst h2; exact hx

theorem drawn_of {T : Tab} (n1 : 1 ≤ T.zs.length) (n2 : T.zs.length ≤ 17) (t1 : -1 ≤ T.t) (t2 : T.t ≤ 16) (q1 : -1 ≤ T.p) (q2 : T.p ≤ 16) (h : ∀ x ∈ T.zs, -3 ≤ x ∧ x ≤ 100) : DrawnB T := ⟨⟨n1, n2⟩, ⟨t1, t2⟩, ⟨q1, q2⟩, h⟩

end Go.Proofs.YtdoodkdlfkekmaaDoor

namespace Go.Proofs.YtdoodkdlfkekmaaDoor
open Go.RowKit

theorem ownsRow_pos {w : World} {base : Nat} {e : TypeId} {size : Nat} {v : Value} {n : Nat} {xs : List Value} (h : w.ownsRow base e size v n xs) (h0 : 0 < n) : ∃ g cap, v = .slice (some ⟨g, 0, none⟩) n cap := by
  rcases h.2 with ⟨_, h1⟩ | ⟨g, cap, cur, rfl, _⟩
  · omega
  · exact ⟨g, cap, rfl⟩

theorem ownsRow_cap {w : World} {base : Nat} {e : TypeId} {size : Nat} {a : Option Addr} {m c n : Nat} {xs : List Value} (h : w.ownsRow base e size (.slice a m c) n xs) : n ≤ c := by
  rcases h.2 with ⟨hv, h1⟩ | ⟨g, cap, cur, hv, _, _, h1, _⟩
  · omega
  · simp only [Value.slice.injEq] at hv
    omega

end Go.Proofs.YtdoodkdlfkekmaaDoor

namespace Go.Proofs.YtdoodkdlfkekmaaDoor
open Go.RowKit

theorem NumsAt.take {k : IntKind} {w : World} {a : Option Addr} {zs : List Int} (h : NumsAt k w a zs) (n : Nat) : NumsAt k w a (zs.take n) := fun h0 => by
  simp only [List.length_take] at h0
  obtain ⟨b, o, e, hc⟩ := h (by omega)
  refine ⟨b, o, e, fun j hj => ?_⟩
  simp only [List.length_take] at hj
  rw [hc j (by omega), List.getElem?_take_of_lt (by omega)]

end Go.Proofs.YtdoodkdlfkekmaaDoor

namespace Go.Proofs.YtdoodkdlfkekmaaDoor
open Go.RowKit

/-- Bytes that came in, as lists. -/
structure Came (c : Nat) (code : List Int) : Prop where
  cap : code.length ≤ c
  cap2 : c ≤ 9223372036854775807
  byte : ∀ i, 0 ≤ nth code i ∧ nth code i ≤ 255

end Go.Proofs.YtdoodkdlfkekmaaDoor

namespace Go.Proofs.YtdoodkdlfkekmaaDoor
open Go.RowKit

/-- Two tables of the call's own. -/
def TwoTabs (w0 : World) (l : List It) (e : Ending) (w' : World) : Prop :=
  ∃ (A B : Tab) (a b : Option Addr) (c d lo hi lo2 hi2 : Nat), e = .returned (.tuple #[tabV A a c, tabV B b d]) ∧ (1 ≤ A.zs.length ∧ A.zs.length ≤ 17) ∧ (1 ≤ B.zs.length ∧ B.zs.length ≤ 17) ∧
    St w0 w' (It.own lo hi a A.zs :: It.own lo2 hi2 b B.zs :: l)

theorem St.storeOwn {w0 w : World} {l : List It} {lo hi g : Nat} {zs : List Int} (h : St w0 w l) (n i : Nat) (hi' : i < zs.length) (hn : l[n]? = some (It.own lo hi (some ⟨g, 0, none⟩) zs)) (hf : Far (It.own lo hi (some ⟨g, 0, none⟩) zs) (l.eraseIdx n)) (hlo : w0.heap.size ≤ lo) (v : Int) :
    St w0 (w.setCell ⟨g, i, none⟩ (.int .i64 v)) (l.set n (It.own lo hi (some ⟨g, 0, none⟩) (zs.set i v))) := by
  have h5 := (h.owns n hn).set i hi' v
  rw [Nat.zero_add] at h5
  exact h.markAt (a := some ⟨g, 0, none⟩) (w' := w.setCell ⟨g, i, none⟩ (.int .i64 v)) ⟨rfl, rfl, rfl, by simp [World.setCell], fun k _ hk => Below.heap_setCell w ⟨g, i, none⟩ _ k (fun e => hk (by rw [e]; rfl))⟩ h5 n hn hf hlo

theorem St.set6 {w0 w : World} {l : List It} {b b2 : Nat} (h : St w0 w l) (hf : Far (It.box b #[] 0) l) (hf2 : Far (It.box b2 #[] 0) l) (hlo : w0.heap.size ≤ b) (hlo2 : w0.heap.size ≤ b2) (x y z x' y' z' : Value) :
    St w0 ((((((w.setCell ⟨b, 0, none⟩ x).setCell ⟨b, 1, none⟩ y).setCell ⟨b, 2, none⟩ z).setCell ⟨b2, 0, none⟩ x').setCell ⟨b2, 1, none⟩ y').setCell ⟨b2, 2, none⟩ z') l :=
  (h.set3Far hf hlo x y z).set3Far hf2 hlo2 x' y' z'

end Go.Proofs.YtdoodkdlfkekmaaDoor

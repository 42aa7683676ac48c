/-
  What chapter 1's draws make: l1Fill.
-/
import Derived.Test.YtdoodkdlfkekmaaDoorSort
namespace Go.Proofs.YtdoodkdlfkekmaaDoor
open Go.RowKit

theorem rowInts {w : World} {base : Nat} {e : TypeId} {a : Option Addr} {m n c : Nat} {zs : List Int} (h : w.ownsRow base e 1 (.slice a m c) n (zs.map (Value.int .i64))) : OwnInts w base a zs := by
  have hm : m = n := by
    rcases h.2 with ⟨hv, h0⟩ | ⟨g, cap, cur, hv, _⟩
    · cases hv; exact h0.symm
    · cases hv; rfl
  subst hm
  exact ownsRow_ints h

theorem rowSet {w : World} {base : Nat} {e : TypeId} {b o m n c : Nat} {zs : List Int} (h : w.ownsRow base e 1 (.slice (some ⟨b, o, none⟩) m c) n (zs.map (Value.int .i64))) (i : Nat) (hi : i < zs.length) (x : Int) :
    (w.setCell ⟨b, o + i, none⟩ (.int .i64 x)).ownsRow base e 1 (.slice (some ⟨b, o, none⟩) m c) n ((zs.set i x).map (Value.int .i64)) := by
  obtain ⟨h1, h2⟩ := h
  refine ⟨by simpa using h1, ?_⟩
  rcases h2 with ⟨hv, _⟩ | ⟨g, cap, cur, hv, hb, hg, hn, hc, hs, ht⟩
  · cases hv
  · cases hv
    refine .inr ⟨b, c, cur.setIfInBounds (0 + i) (.int .i64 x), rfl, hb, setCell_at hg _ _, hn, hc, by simpa using hs, ?_⟩
    rw [Nat.zero_add, List.map_set, ← ht, Array.toList_setIfInBounds, List.take_set]

/-- A store into a row. -/
theorem St.store {w0 w : World} {l : List It} {lo hi b o m c : Nat} {zs : List Int} (h : St w0 w (It.row lo hi (.slice (some ⟨b, o, none⟩) m c) zs :: l)) (i : Nat) (hi' : i < zs.length) (hf : Far (It.row lo hi (.slice (some ⟨b, o, none⟩) m c) zs) l) (hlo : w0.heap.size ≤ lo) (x : Int) :
    St w0 (w.setCell ⟨b, o + i, none⟩ (.int .i64 x)) (It.row lo hi (.slice (some ⟨b, o, none⟩) m c) (zs.set i x) :: l) := by
  have h0 := (h.get 0 rfl : (It.row lo hi (.slice (some ⟨b, o, none⟩) m c) zs).P w)
  have hb := (h0.1.lt b rfl).1
  have hb2 := h0.2 b rfl
  refine h.write (row := some b) ⟨rfl, rfl, rfl, by simp [World.setCell], fun k _ hk => Below.heap_setCell w _ _ k (fun e => hk (by rw [e]))⟩ (fun k e => by cases e; exact ⟨hb, hb2⟩) hf hlo ?_ ⟨by rw [List.length_set]; exact rowSet h0.1 i hi' x, h0.2⟩
  have h3 : hi ≤ w.heap.size := h.sz 0 rfl
  show hi ≤ (w.setCell _ _).heap.size
  simpa [World.setCell] using h3

theorem St.rowInts {w0 w : World} {l : List It} {lo hi m c : Nat} {a : Option Addr} {xs : List Int} (h : St w0 w l) (n : Nat) (hi' : l[n]? = some (It.row lo hi (.slice a m c) xs)) : OwnInts w lo a xs := Go.Proofs.YtdoodkdlfkekmaaDoor.rowInts (h.rows n hi')

theorem St.rowLt {w0 w : World} {l : List It} {lo hi m c : Nat} {a : Option Addr} {zs : List Int} (h : St w0 w l) (k : Nat) (hm : l[k]? = some (It.row lo hi (.slice a m c) zs)) (h0 : 0 < zs.length) : lo < hi := by
  have hp := (h.get k hm : (It.row lo hi (.slice a m c) zs).P w)
  obtain ⟨b, o, rfl, _⟩ := (Go.Proofs.YtdoodkdlfkekmaaDoor.rowInts hp.1).2 h0
  have h1 := (hp.1.lt b rfl).1
  have h2 := hp.2 b rfl
  omega

/-- What slots hold: keys, free slots, tombs. -/
def SlotB (zs : List Int) : Prop := ∀ x ∈ zs, -2 ≤ x ∧ x ≤ 99
theorem SlotB.set {zs : List Int} {x : Int} (h : SlotB zs) (i : Nat) (h0 : -2 ≤ x) (h1 : x ≤ 99) : SlotB (zs.set i x) := by
  intro y hy
  rcases List.mem_or_eq_of_mem_set hy with h2 | rfl
  · exact h y h2
  · exact ⟨h0, h1⟩

theorem St.front {w0 w : World} {l : List It} {x : It} (h : St w0 w l) (hx : x ∈ l) : St w0 w (x :: l) :=
  h.turn fun j hj => by
    rcases List.mem_cons.1 hj with rfl | hj
    · exact hx
    · exact hj

end Go.Proofs.YtdoodkdlfkekmaaDoor

/-
  The law files' own helpers on slices of integers and on tables: eqIntS, markIntS, heldIntS and what is built on them.
-/
import Derived.Test.YtfkdandmedojpaaDoorSmall
import Derived.Deep.QuietTactic
import Derived.BigQuiet
namespace Go.Proofs.YtfkdandmedojpaaDoor
open Go.RowKit

/-- The cells at a hold the integers zs. Nothing is asked of a where there are none. -/
def IntsAt (w : World) (a : Option Addr) (zs : List Int) : Prop :=
  0 < zs.length → ∃ b off, a = some ⟨b, off, none⟩ ∧ ∀ j, j < zs.length → w.cell? ⟨b, off + j, none⟩ = some (.int .i64 (zs[j]?.getD 0))

/-- Slot k, under a name. -/
theorem IntsAt.at {w : World} {a : Option Addr} {zs : List Int} (h : IntsAt w a zs) {k : Nat} (hk : k < zs.length) :
    ∃ b o x, a = some ⟨b, o, none⟩ ∧ w.cell? ⟨b, o + k, none⟩ = some (.int .i64 x) ∧ Hid (nth zs k = x) :=
  let ⟨b, o, e, hc⟩ := h (by omega)
  ⟨b, o, _, e, hc k hk, rfl⟩

theorem IntsAt.drewN {w : World} {a : Option Addr} {zs : List Int} (h : IntsAt w a zs) (n : Nat) : IntsAt (w.drewN n) a zs := h

theorem IntsAt.below {w w' : World} {a : Option Addr} {zs : List Int} (h : IntsAt w a zs) (hb : Below w.heap.size w w') : IntsAt w' a zs := by
  intro h0
  obtain ⟨b, off, rfl, hc⟩ := h h0
  refine ⟨b, off, rfl, fun j hj => ?_⟩
  rw [hb.cell (World.block_lt_of_cell? w _ (hc j hj))]
  exact hc j hj

theorem below_drewN {B : Nat} {a w : World} (h : Below B a w) (n : Nat) : Below B a (w.drewN n) := ⟨h.os, h.tape, h.output, h.size, h.block⟩

theorem drewN_two (w : World) (n k : Nat) : ∃ m, (w.drewN n).drewN k = w.drewN m := ⟨n + k, by simp⟩

theorem take_eq_step (xs ys : List Int) (k : Nat) (hx : k < xs.length) (hy : k < ys.length) (h : xs.take k = ys.take k) (he : xs[k]?.getD 0 = ys[k]?.getD 0) : xs.take (k + 1) = ys.take (k + 1) := by
  rw [List.take_add_one, List.take_add_one, h, List.getElem?_eq_getElem hx, List.getElem?_eq_getElem hy]
  rw [List.getElem?_eq_getElem hx, List.getElem?_eq_getElem hy] at he
  show _ ++ [_] = _ ++ [_]
  rw [show xs[k] = ys[k] from he]

theorem eq_at_step (xs ys : List Int) (k : Nat) (hx : k < xs.length) (hy : k < ys.length) (h : xs.take k = ys.take k) (he : (xs[k] != ys[k]) = false) : xs.take (k + 1) = ys.take (k + 1) := by
  refine take_eq_step xs ys k hx hy h ?_
  simp [List.getElem?_eq_getElem hx, List.getElem?_eq_getElem hy] at he ⊢
  exact he
theorem eq_at_ne (xs ys : List Int) (k : Nat) (hx : k < xs.length) (hy : k < ys.length) (he : (xs[k] != ys[k]) = true) : false = decide (xs = ys) := by
  have : xs ≠ ys := by
    intro h
    subst h
    simp at he
  simp [this]

/-- Cells of blocks from base on, which may be written: they hold the integers zs. -/
def OwnInts (w : World) (base : Nat) (a : Option Addr) (zs : List Int) : Prop :=
  (∀ p, a = some p → base ≤ p.block ∧ p.block < w.heap.size) ∧
  (0 < zs.length → ∃ b off, a = some ⟨b, off, none⟩ ∧ (∀ j, j < zs.length → w.cell? ⟨b, off + j, none⟩ = some (.int .i64 (zs[j]?.getD 0))) ∧ (∀ j, j < zs.length → w.frozen? ⟨b, off + j, none⟩ = false))

theorem OwnInts.ints {w : World} {base : Nat} {a : Option Addr} {zs : List Int} (h : OwnInts w base a zs) : IntsAt w a zs := fun h0 =>
  let ⟨b, off, e, hc, _⟩ := h.2 h0
  ⟨b, off, e, hc⟩

theorem OwnInts.mono {w : World} {base base' : Nat} {a : Option Addr} {zs : List Int} (h : OwnInts w base a zs) (hb : base' ≤ base) : OwnInts w base' a zs :=
  ⟨fun p hp => ⟨Nat.le_trans hb (h.1 p hp).1, (h.1 p hp).2⟩, h.2⟩

theorem OwnInts.nil (w : World) (base : Nat) : OwnInts w base none [] := ⟨fun _ h => (by cases h), fun h => (by simp at h)⟩

/-- Nothing that may be written but the row's own block has turned. -/
theorem OwnInts.keep {w w' : World} {base : Nat} {a : Option Addr} {zs : List Int} (h : OwnInts w base a zs) (hz : w.heap.size ≤ w'.heap.size) (hs : ∀ k, base ≤ k → k < w.heap.size → w'.heap[k]? = w.heap[k]?) : OwnInts w' base a zs := by
  refine ⟨fun p hp => ⟨(h.1 p hp).1, Nat.lt_of_lt_of_le (h.1 p hp).2 hz⟩, fun h0 => ?_⟩
  obtain ⟨b, off, rfl, hc, hf⟩ := h.2 h0
  have hb := h.1 _ rfl
  exact ⟨b, off, rfl, fun j hj => (World.cell?_of_block (w := w) (a := ⟨b, off + j, none⟩) (hs b hb.1 hb.2)).trans (hc j hj), fun j hj => (World.frozen?_of_block (w := w) (a := ⟨b, off + j, none⟩) (hs b hb.1 hb.2)).trans (hf j hj)⟩

theorem OwnInts.below {w w' : World} {base : Nat} {a : Option Addr} {zs : List Int} (h : OwnInts w base a zs) (hb : Below w.heap.size w w') : OwnInts w' base a zs :=
  h.keep hb.size fun k _ hk => hb.block k hk

theorem OwnInts.setOther {w : World} {base : Nat} {a : Option Addr} {zs : List Int} (h : OwnInts w base a zs) {p : Addr} (hp : p.block < base) (v : Value) : OwnInts (w.setCell p v) base a zs :=
  h.keep (by simp [World.setCell]) fun k hk _ => Below.heap_setCell w p v k (by omega)

theorem OwnInts.set {w : World} {base : Nat} {b off : Nat} {zs : List Int} (h : OwnInts w base (some ⟨b, off, none⟩) zs) (k : Nat) (hk : k < zs.length) (v : Int) :
    OwnInts (w.setCell ⟨b, off + k, none⟩ (.int .i64 v)) base (some ⟨b, off, none⟩) (zs.set k v) := by
  refine ⟨by simpa [World.setCell] using h.1, fun _ => ?_⟩
  obtain ⟨b', off', e, hc, hf⟩ := h.2 (by omega)
  cases e
  refine ⟨b, off, rfl, fun j hj => ?_, fun j hj => ?_⟩
  · simp only [List.length_set] at hj
    by_cases hjk : j = k
    · subst hjk
      rw [World.cell?_setCell_same _ _ _ (hc j hj)]
      simp [hj]
    · rw [World.cell?_setCell_other _ _ _ _ (by simp only [ne_eq, Addr.mk.injEq, true_and, and_true]; omega), hc j hj]
      simp [List.getElem?_set, Ne.symm hjk]
  · simp only [List.length_set] at hj
    rw [World.frozen?_setCell]; exact hf j hj

theorem grown_set {w wr : World} {row : Option Nat} {p : Addr} (h : w.grownBy wr row) (hp : row = some p.block) (v : Value) : w.grownBy (wr.setCell p v) row :=
  ⟨h.os, h.tape, h.output, by simpa [World.setCell] using h.size, fun k hk hne => (Below.heap_setCell wr p v k (fun e => hne (by rw [hp, e]))).trans (h.block k hk hne)⟩

theorem grownBy_trans {a b c : World} {row : Option Nat} (h : a.grownBy b row) (k : b.grownBy c row) : a.grownBy c row :=
  ⟨k.os.trans h.os, k.tape.trans h.tape, k.output.trans h.output, Nat.le_trans h.size k.size, fun i hi hne => (k.block i (Nat.lt_of_lt_of_le hi h.size) hne).trans (h.block i hi hne)⟩

theorem IntsAt.grown {w w' : World} {row : Option Nat} {a : Option Addr} {zs : List Int} (h : IntsAt w a zs) (hg : w.grownBy w' row) (hne : 0 < zs.length → a.map Addr.block ≠ row) : IntsAt w' a zs := by
  intro h0
  obtain ⟨b, off, rfl, hc⟩ := h h0
  exact ⟨b, off, rfl, fun j hj => hg.cell (hc j hj) (hne h0)⟩

theorem marks_done (m : Int) (zs : List Int) (h : ∀ i, i < zs.length → zs[i]?.getD 0 = m + i) : zs = (List.range zs.length).map (fun i : Nat => m + i) := by
  apply List.ext_getElem (by simp)
  intro i h1 h2
  have := h i h1
  simpa [List.getElem?_eq_getElem h1] using this

theorem set_marks (m : Int) (zs : List Int) (j : Nat) (hj : j < zs.length) (h : ∀ i, i < j → zs[i]?.getD 0 = m + i) : ∀ i, i < j + 1 → (zs.set j (m + j))[i]?.getD 0 = m + i := by
  intro i hi
  by_cases e : i = j
  · subst e; simp [hj]
  · rw [List.getElem?_set, if_neg (by omega)]; exact h i (by omega)

theorem grownBy_below {w w' : World} {base : Nat} {row : Option Nat} (h : w.grownBy w' row) (hb : base ≤ w.heap.size) (hr : ∀ k, row = some k → base ≤ k) : Below base w w' :=
  ⟨h.os, h.tape, h.output, h.size, fun k hk => h.block k (by omega) (fun e => by have := hr k e.symm; omega)⟩

end Go.Proofs.YtfkdandmedojpaaDoor

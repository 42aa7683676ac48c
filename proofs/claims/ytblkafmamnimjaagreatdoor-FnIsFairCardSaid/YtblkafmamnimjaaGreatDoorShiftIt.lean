/-
  The iterator that shifts keys into a hole, in the table's own slots.
-/
import Derived.Test.YtblkafmamnimjaaGreatDoorLow
import Derived.Test.YtblkafmamnimjaaGreatDoorAway
import Derived.Test.YtblkafmamnimjaaGreatDoorMath
namespace Go.Proofs.YtblkafmamnimjaaGreatDoor
open Go.RowKit Go.Shelf
attribute [local go_sem] Oper.semAt_some

theorem rowOwn_block {w w' : World} {g : Nat} {zs : List Int} (h : OwnInts w g (some ⟨g, 0, none⟩) zs) (hb : w'.heap[g]? = w.heap[g]?) (hz : w.heap.size ≤ w'.heap.size) : OwnInts w' g (some ⟨g, 0, none⟩) zs := by
  refine ⟨fun p hp => ⟨(h.1 p hp).1, Nat.lt_of_lt_of_le (h.1 p hp).2 hz⟩, fun h0 => ?_⟩
  obtain ⟨b, off, e, hc, hf⟩ := h.2 h0
  cases e
  exact ⟨g, 0, rfl, fun j hj => (World.cell?_of_block (a := ⟨g, 0 + j, none⟩) hb).trans (hc j hj), fun j hj => (World.frozen?_of_block (a := ⟨g, 0 + j, none⟩) hb).trans (hf j hj)⟩
theorem rowOwn_at {w : World} {g : Nat} {zs : List Int} (h : OwnInts w g (some ⟨g, 0, none⟩) zs) {i : Nat} (hi : i < zs.length) : w.cell? ⟨g, i, none⟩ = some (.int .i64 (nth zs i)) ∧ w.frozen? ⟨g, i, none⟩ = false := by
  obtain ⟨b, off, e, hc, hf⟩ := h.2 (by omega)
  cases e
  have := hc i hi
  have h2 := hf i hi
  rw [Nat.zero_add] at this h2
  exact ⟨this, h2⟩
/-- The row that lies in a block. -/
def readInts (w : World) (g n : Nat) : List Int := (List.range n).map fun i => intOf ((w.cell? ⟨g, i, none⟩).getD undef)
theorem read_own {w : World} {g n : Nat} {zs : List Int} (h : OwnInts w g (some ⟨g, 0, none⟩) zs) (hn : zs.length = n) : readInts w g n = zs := by
  subst hn
  refine nth_ext (by simp [readInts]) fun i hi => ?_
  have hi : i < zs.length := by simpa [readInts] using hi
  have : (readInts w g zs.length)[i]? = some (intOf ((w.cell? ⟨g, i, none⟩).getD undef)) := by
    unfold readInts
    rw [List.getElem?_map, List.getElem?_range hi]; rfl
  rw [nth, this, (rowOwn_at h hi).1]
  rfl
theorem keep_rest {A B C : World} {g b : Nat} {v : Value} (h : ∀ k, k < B.heap.size → k ≠ g → C.heap[k]? = B.heap[k]?) (hne : b ≠ g) (hc : B.cell? ⟨b, 0, none⟩ = some v) : C.cell? ⟨b, 0, none⟩ = some v :=
  (World.cell?_of_block (a := ⟨b, 0, none⟩) (h b (World.block_lt_of_cell? B _ hc) hne)).trans hc

/-- Below B all lies as it lay, but the block g. -/
def KeepBut (B g : Nat) (A A' : World) : Prop := A.heap.size ≤ A'.heap.size ∧ ∀ k, k < B → k ≠ g → A'.heap[k]? = A.heap[k]?
theorem KeepBut.refl (B g : Nat) (A : World) : KeepBut B g A A := ⟨Nat.le_refl _, fun _ _ _ => rfl⟩
theorem KeepBut.below {B g : Nat} {A A' A'' : World} (h : KeepBut B g A A') (hb : Below B A' A'') : KeepBut B g A A'' := ⟨Nat.le_trans h.1 hb.size, fun k h1 h2 => (hb.block k h1).trans (h.2 k h1 h2)⟩
theorem KeepBut.set {B g : Nat} {A A' : World} (h : KeepBut B g A A') (o : Nat) (v : Value) : KeepBut B g A (A'.setCell ⟨g, o, none⟩ v) := ⟨by simpa [World.setCell] using h.1, fun k h1 h2 => (Below.heap_setCell A' ⟨g, o, none⟩ v k h2).trans (h.2 k h1 h2)⟩
theorem KeepBut.cell {B g : Nat} {A A' : World} (h : KeepBut B g A A') {b o : Nat} {v : Value} (hb : b < B) (hne : b ≠ g) (hc : A.cell? ⟨b, o, none⟩ = some v) : A'.cell? ⟨b, o, none⟩ = some v :=
  (World.cell?_of_block (a := ⟨b, o, none⟩) (h.2 b hb hne)).trans hc

theorem fwd_next {n h d : Nat} (hh : h < n) (h1 : 1 ≤ d) (h2 : d ≤ n) : ((fwd n h (d - 1) : Nat) + 1 : Int).tmod n = (fwd n h d : Nat) := by
  rw [Int.tmod_eq_emod_of_nonneg (by omega)]
  have : ((fwd n h (d - 1) : Nat) + 1 : Int) % n = ((fwd n h (d - 1) + 1) % n : Nat) := by simp
  rw [this]
  have h3 := fwd_lt hh (m := d - 1) (by omega)
  rcases fwd_cases n h (d - 1) with ⟨c1, e1⟩ | ⟨c1, e1⟩ <;> rcases fwd_cases n h d with ⟨c2, e2⟩ | ⟨c2, e2⟩
  · rw [Nat.mod_eq_of_lt (by omega)]; omega
  · rw [show fwd n h (d - 1) + 1 = n by omega, Nat.mod_self]; omega
  · omega
  · rw [Nat.mod_eq_of_lt (by omega)]; omega
theorem shift_len (T : Tab) : ∀ (f : Nat) (zs : List Int) (hole d : Nat), Hole T zs hole d → (shiftF T f zs hole d).1.length ≤ sumN (awZ T zs) T.zs.length := by
  intro f
  induction f with
  | zero => intro zs hole d _; simp [shiftF]
  | succ f ih =>
    intro zs hole d hH
    simp only [shiftF]
    split
    · simp
    · rename_i hx
      split
      · exact ih _ _ _ (hH.pass hx)
      · rename_i ha
        have h1 := ih _ _ _ (hH.move hx)
        have h2 := meas_move hH hx ha
        have hd := hH.d1
        have hd2 := (hH.full hx).1
        have l2 : zs.length ≤ 16 := (valid_facts hH.val).1.2
        rw [hH.len] at l2
        unfold meas at h2
        unfold moved at h1 h2
        simp only [List.length_cons]
        omega
theorem sum_le {f : Nat → Nat} {n b : Nat} (h : ∀ i, i < n → f i ≤ b) : sumN f n ≤ b * n := by
  induction n with
  | zero => simp [sumN]
  | succ n ih =>
    simp only [sumN]
    have := ih fun i hi => h i (by omega)
    have := h n (by omega)
    rw [Nat.mul_add]; omega
theorem shiftR_len {T : Tab} {zs : List Int} {hole d : Nat} (h : Hole T zs hole d) : (shiftR T zs hole d).1.length ≤ 256 := by
  have h1 := shift_len T (meas T zs d + 1) zs hole d h
  have l2 : zs.length ≤ 16 := (valid_facts h.val).1.2
  rw [h.len] at l2
  have h2 := sum_le (f := awZ T zs) (n := T.zs.length) (b := 16) fun i hi => by
    unfold awZ
    split
    · have := dst_lt (h.home (nth zs i)) hi
      unfold awN; omega
    · omega
  unfold shiftR
  omega

end Go.Proofs.YtblkafmamnimjaaGreatDoor

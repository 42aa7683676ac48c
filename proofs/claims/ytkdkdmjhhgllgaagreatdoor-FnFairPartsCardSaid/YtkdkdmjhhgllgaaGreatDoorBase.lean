/-
  The lowest functions that the others call: rows, tables, homes, draws.
-/
import Derived.Test.YtkdkdmjhhgllgaaGreatDoorRows
import Derived.Test.YtkdkdmjhhgllgaaGreatDoorMath
import Derived.WalkKit
import Derived.WalkSpells
import Derived.WalkLawsBesides
import Derived.Lib.Hide
import Derived.Deep.QuietTactic
import Derived.BigQuiet
import Derived.Laws.CopyOwn
import Derived.Deep.RegionLaw
import Derived.IntWalk
namespace Go.Proofs.YtkdkdmjhhgllgaaGreatDoor
open Go.RowKit

theorem ret_bool {a b : Bool} (h : a = b) : Ending.returned (.bool a) = .returned (.bool b) := by rw [h]

theorem ret_int {k : IntKind} {a b : Int} (h : a = b) : Ending.returned (.int k a) = .returned (.int k b) := by rw [h]

set_option maxHeartbeats 400000 in
theorem isSize_any (n : Int) (w : World) :
    Calls Tryz.prog 61 #[.int .i64 n] w fun e w' => e = .returned (.bool (inB n 1 16)) ∧ w = w' := by
  by_cases h : 1 ≤ n
  all_goals
    go_enter Tryz.func61, Tryz.ntmps61
    go_wp2
    go_ret
    exact ⟨ret_bool (by first | (simp [inB, h]; done) | (simp [inB]; omega)), rfl⟩

set_option maxHeartbeats 400000 in
theorem isTimes_any (n : Int) (w : World) :
    Calls Tryz.prog 62 #[.int .i64 n] w fun e w' => e = .returned (.bool (inB n 0 15)) ∧ w = w' := by
  by_cases h : 0 ≤ n
  all_goals
    go_enter Tryz.func62, Tryz.ntmps62
    go_wp2
    go_ret
    exact ⟨ret_bool (by first | (simp [inB, h]; done) | (simp [inB]; omega)), rfl⟩

set_option maxHeartbeats 400000 in
theorem heldIsKey_any (n : Int) (w : World) :
    Calls Tryz.prog 66 #[.int .i64 n] w fun e w' => e = .returned (.bool (inB n 0 99)) ∧ w = w' := by
  by_cases h : 0 ≤ n
  all_goals
    go_enter Tryz.func66, Tryz.ntmps66
    go_wp2
    go_ret
    exact ⟨ret_bool (by first | (simp [inB, h]; done) | (simp [inB]; omega)), rfl⟩

set_option maxHeartbeats 400000 in
theorem isKey_any (n : Int) (w : World) :
    Calls Tryz.prog 49 #[.int .i64 n] w fun e w' => e = .returned (.bool (inB n 0 99)) ∧ w = w' := by
  go_enter Tryz.func49, Tryz.ntmps49
  go_wp2_with (go_at_call 66; refine (heldIsKey_any _ _).mono ?_; rintro e w' ⟨rfl, rfl⟩)
  go_ret
  exact ⟨rfl, rfl⟩

set_option maxHeartbeats 400000 in
theorem l1In_any (n lo hi : Int) (w : World) :
    Calls Tryz.prog 80 #[.int .i64 n, .int .i64 lo, .int .i64 hi] w fun e w' => e = .returned (.bool (inB n lo hi)) ∧ w = w' := by
  by_cases h : lo ≤ n
  all_goals
    go_enter Tryz.func80, Tryz.ntmps80
    go_wp2
    go_ret
    exact ⟨ret_bool (by first | (simp [inB, h]; done) | (simp [inB]; omega)), rfl⟩

set_option maxHeartbeats 400000 in
theorem l1Head_any (a b c : Int) (w : World) :
    Calls Tryz.prog 79 #[.int .i64 a, .int .i64 b, .int .i64 c] w fun e w' => e = .returned (.bool (headB a b c)) ∧ w = w' := by
  cases ha : inB a 1 16
  all_goals cases hb : inB b 0 15
  all_goals
    go_enter Tryz.func79, Tryz.ntmps79
    go_wp2_with (go_at_call 80; refine (l1In_any _ _ _ _).mono ?_; rintro e w' ⟨rfl, rfl⟩)
    go_ret
    exact ⟨ret_bool (by simp [headB, ha, hb]), rfl⟩

set_option maxHeartbeats 400000 in
theorem isValid_any (n : Int) (w : World) :
    Calls Tryz.prog 89 #[.int .i64 n] w fun e w' => e = .returned (.bool (inB n (-2) 99)) ∧ w = w' := by
  cases h : inB n 0 99
  · by_cases h1 : n = -1
    · subst h1
      go_enter Tryz.func89, Tryz.ntmps89
      go_wp2_with (go_at_call 66; refine (heldIsKey_any _ _).mono ?_; rintro e w' ⟨rfl, rfl⟩)
      go_ret
      exact ⟨rfl, rfl⟩
    · have h2 : (n == -1) = false := by simpa using h1
      go_enter Tryz.func89, Tryz.ntmps89
      go_wp2_with (go_at_call 66; refine (heldIsKey_any _ _).mono ?_; rintro e w' ⟨rfl, rfl⟩)
      go_ret
      refine ⟨ret_bool ?_, rfl⟩
      have := inB_false.1 h
      rw [Bool.eq_iff_iff, inB_iff]
      simp
      omega
  · go_enter Tryz.func89, Tryz.ntmps89
    go_wp2_with (go_at_call 66; refine (heldIsKey_any _ _).mono ?_; rintro e w' ⟨rfl, rfl⟩)
    go_ret
    refine ⟨ret_bool ?_, rfl⟩
    have := inB_iff.1 h
    exact (inB_true (by omega)).symm

end Go.Proofs.YtkdkdmjhhgllgaaGreatDoor

namespace Go.Proofs.YtkdkdmjhhgllgaaGreatDoor
open Go.RowKit

/-- The cells at a hold the integers zs. Nothing is asked of a where there are none. -/
def IntsAt (w : World) (a : Option Addr) (zs : List Int) : Prop :=
  0 < zs.length → ∃ b off, a = some ⟨b, off, none⟩ ∧ ∀ j, j < zs.length → w.cell? ⟨b, off + j, none⟩ = some (.int .i64 (zs[j]?.getD 0))

/-- Slot k, under a name. -/
theorem IntsAt.at {w : World} {a : Option Addr} {zs : List Int} (h : IntsAt w a zs) {k : Nat} (hk : k < zs.length) :
    ∃ b o x, a = some ⟨b, o, none⟩ ∧ w.cell? ⟨b, o + k, none⟩ = some (.int .i64 x) ∧ Hid (nth zs k = x) :=
  let ⟨b, o, e, hc⟩ := h (by omega)
  ⟨b, o, _, e, hc k hk, rfl⟩

theorem IntsAt.drewN {w : World} {a : Option Addr} {zs : List Int} (h : IntsAt w a zs) (n : Nat) : IntsAt (w.drewN n) a zs := h

theorem IntsAt.below {w w' : World} {a : Option Addr} {zs : List Int} (h : IntsAt w a zs) (hb : Below w.heap.size w w') : IntsAt w' a zs := by
  intro h0
  obtain ⟨b, off, rfl, hc⟩ := h h0
  refine ⟨b, off, rfl, fun j hj => ?_⟩
  rw [hb.cell (World.block_lt_of_cell? w _ (hc j hj))]
  exact hc j hj

theorem below_drewN {B : Nat} {a w : World} (h : Below B a w) (n : Nat) : Below B a (w.drewN n) := ⟨h.os, h.tape, h.output, h.size, h.block⟩

theorem drewN_two (w : World) (n k : Nat) : ∃ m, (w.drewN n).drewN k = w.drewN m := ⟨n + k, by simp⟩

theorem take_eq_step (xs ys : List Int) (k : Nat) (hx : k < xs.length) (hy : k < ys.length) (h : xs.take k = ys.take k) (he : xs[k]?.getD 0 = ys[k]?.getD 0) : xs.take (k + 1) = ys.take (k + 1) := by
  rw [List.take_add_one, List.take_add_one, h, List.getElem?_eq_getElem hx, List.getElem?_eq_getElem hy]
  rw [List.getElem?_eq_getElem hx, List.getElem?_eq_getElem hy] at he
  show _ ++ [_] = _ ++ [_]
  rw [show xs[k] = ys[k] from he]

theorem eq_at_step (xs ys : List Int) (k : Nat) (hx : k < xs.length) (hy : k < ys.length) (h : xs.take k = ys.take k) (he : (xs[k] != ys[k]) = false) : xs.take (k + 1) = ys.take (k + 1) := by
  refine take_eq_step xs ys k hx hy h ?_
  simp [List.getElem?_eq_getElem hx, List.getElem?_eq_getElem hy] at he ⊢
  exact he
theorem eq_at_ne (xs ys : List Int) (k : Nat) (hx : k < xs.length) (hy : k < ys.length) (he : (xs[k] != ys[k]) = true) : false = decide (xs = ys) := by
  have : xs ≠ ys := by
    intro h
    subst h
    simp at he
  simp [this]

/-- Cells of blocks from base on, which may be written: they hold the integers zs. -/
def OwnInts (w : World) (base : Nat) (a : Option Addr) (zs : List Int) : Prop :=
  (∀ p, a = some p → base ≤ p.block ∧ p.block < w.heap.size) ∧
  (0 < zs.length → ∃ b off, a = some ⟨b, off, none⟩ ∧ (∀ j, j < zs.length → w.cell? ⟨b, off + j, none⟩ = some (.int .i64 (zs[j]?.getD 0))) ∧ (∀ j, j < zs.length → w.frozen? ⟨b, off + j, none⟩ = false))

theorem OwnInts.ints {w : World} {base : Nat} {a : Option Addr} {zs : List Int} (h : OwnInts w base a zs) : IntsAt w a zs := fun h0 =>
  let ⟨b, off, e, hc, _⟩ := h.2 h0
  ⟨b, off, e, hc⟩

theorem OwnInts.mono {w : World} {base base' : Nat} {a : Option Addr} {zs : List Int} (h : OwnInts w base a zs) (hb : base' ≤ base) : OwnInts w base' a zs :=
  ⟨fun p hp => ⟨Nat.le_trans hb (h.1 p hp).1, (h.1 p hp).2⟩, h.2⟩

theorem OwnInts.nil (w : World) (base : Nat) : OwnInts w base none [] := ⟨fun _ h => (by cases h), fun h => (by simp at h)⟩

/-- Nothing that may be written but the row's own block has turned. -/
theorem OwnInts.keep {w w' : World} {base : Nat} {a : Option Addr} {zs : List Int} (h : OwnInts w base a zs) (hz : w.heap.size ≤ w'.heap.size) (hs : ∀ k, base ≤ k → k < w.heap.size → w'.heap[k]? = w.heap[k]?) : OwnInts w' base a zs := by
  refine ⟨fun p hp => ⟨(h.1 p hp).1, Nat.lt_of_lt_of_le (h.1 p hp).2 hz⟩, fun h0 => ?_⟩
  obtain ⟨b, off, rfl, hc, hf⟩ := h.2 h0
  have hb := h.1 _ rfl
  exact ⟨b, off, rfl, fun j hj => (World.cell?_of_block (w := w) (a := ⟨b, off + j, none⟩) (hs b hb.1 hb.2)).trans (hc j hj), fun j hj => (World.frozen?_of_block (w := w) (a := ⟨b, off + j, none⟩) (hs b hb.1 hb.2)).trans (hf j hj)⟩

theorem OwnInts.below {w w' : World} {base : Nat} {a : Option Addr} {zs : List Int} (h : OwnInts w base a zs) (hb : Below w.heap.size w w') : OwnInts w' base a zs :=
  h.keep hb.size fun k _ hk => hb.block k hk

theorem OwnInts.setOther {w : World} {base : Nat} {a : Option Addr} {zs : List Int} (h : OwnInts w base a zs) {p : Addr} (hp : p.block < base) (v : Value) : OwnInts (w.setCell p v) base a zs :=
  h.keep (by simp [World.setCell]) fun k hk _ => Below.heap_setCell w p v k (by omega)

theorem OwnInts.set {w : World} {base : Nat} {b off : Nat} {zs : List Int} (h : OwnInts w base (some ⟨b, off, none⟩) zs) (k : Nat) (hk : k < zs.length) (v : Int) :
    OwnInts (w.setCell ⟨b, off + k, none⟩ (.int .i64 v)) base (some ⟨b, off, none⟩) (zs.set k v) := by
  refine ⟨by simpa [World.setCell] using h.1, fun _ => ?_⟩
  obtain ⟨b', off', e, hc, hf⟩ := h.2 (by omega)
  cases e
  refine ⟨b, off, rfl, fun j hj => ?_, fun j hj => ?_⟩
  · simp only [List.length_set] at hj
    by_cases hjk : j = k
    · subst hjk
      rw [World.cell?_setCell_same _ _ _ (hc j hj)]
      simp [hj]
    · rw [World.cell?_setCell_other _ _ _ _ (by simp only [ne_eq, Addr.mk.injEq, true_and, and_true]; omega), hc j hj]
      simp [List.getElem?_set, Ne.symm hjk]
  · simp only [List.length_set] at hj
    rw [World.frozen?_setCell]; exact hf j hj

theorem grown_set {w wr : World} {row : Option Nat} {p : Addr} (h : w.grownBy wr row) (hp : row = some p.block) (v : Value) : w.grownBy (wr.setCell p v) row :=
  ⟨h.os, h.tape, h.output, by simpa [World.setCell] using h.size, fun k hk hne => (Below.heap_setCell wr p v k (fun e => hne (by rw [hp, e]))).trans (h.block k hk hne)⟩

theorem grownBy_trans {a b c : World} {row : Option Nat} (h : a.grownBy b row) (k : b.grownBy c row) : a.grownBy c row :=
  ⟨k.os.trans h.os, k.tape.trans h.tape, k.output.trans h.output, Nat.le_trans h.size k.size, fun i hi hne => (k.block i (Nat.lt_of_lt_of_le hi h.size) hne).trans (h.block i hi hne)⟩

theorem IntsAt.grown {w w' : World} {row : Option Nat} {a : Option Addr} {zs : List Int} (h : IntsAt w a zs) (hg : w.grownBy w' row) (hne : 0 < zs.length → a.map Addr.block ≠ row) : IntsAt w' a zs := by
  intro h0
  obtain ⟨b, off, rfl, hc⟩ := h h0
  exact ⟨b, off, rfl, fun j hj => hg.cell (hc j hj) (hne h0)⟩

theorem marks_done (m : Int) (zs : List Int) (h : ∀ i, i < zs.length → zs[i]?.getD 0 = m + i) : zs = (List.range zs.length).map (fun i : Nat => m + i) := by
  apply List.ext_getElem (by simp)
  intro i h1 h2
  have := h i h1
  simpa [List.getElem?_eq_getElem h1] using this

theorem set_marks (m : Int) (zs : List Int) (j : Nat) (hj : j < zs.length) (h : ∀ i, i < j → zs[i]?.getD 0 = m + i) : ∀ i, i < j + 1 → (zs.set j (m + j))[i]?.getD 0 = m + i := by
  intro i hi
  by_cases e : i = j
  · subst e; simp [hj]
  · rw [List.getElem?_set, if_neg (by omega)]; exact h i (by omega)

theorem grownBy_below {w w' : World} {base : Nat} {row : Option Nat} (h : w.grownBy w' row) (hb : base ≤ w.heap.size) (hr : ∀ k, row = some k → base ≤ k) : Below base w w' :=
  ⟨h.os, h.tape, h.output, h.size, fun k hk => h.block k (by omega) (fun e => by have := hr k e.symm; omega)⟩

end Go.Proofs.YtkdkdmjhhgllgaaGreatDoor

namespace Go.Proofs.YtkdkdmjhhgllgaaGreatDoor
open Go.RowKit

theorem Tryz.info3 : (Tryz.prog.info? 3).map (fun i => (i.zero, i.size, i.bytes)) = some (some (.int .i64 0), 1, 8) := by kernel_rfl

theorem infosz : (Tryz.prog.info? 3).map (·.size) = some 1 := by kernel_rfl

/-- n cells of 0 -/
def zeros (n : Nat) : List Value := List.replicate n (.int .i64 0)

theorem mk_row (n : Nat) (hn : n ≤ 1048576) (w : World) : (Instr.makeSlice 23 (.int .i64 n) (.int .i64 n)).run Tryz.prog w = .ok (.slice (some ⟨w.heap.size, 0, none⟩) n n) (w.alloc (.cells (zeros n).toArray 3)) := by
  obtain ⟨i0, hi, hz0, hz1, hz2⟩ := info_parts Tryz.info3
  have h := run_make (P := Tryz.prog) w 23 3 i0 (.int .i64 0) Tryz.underlying23 hi hz0 .i64 .i64 n n (by omega) (by omega) (by rw [hz2]; omega) (by omega)
  simp only [Int.toNat_natCast] at h
  rw [h, hz1, Nat.mul_one]
  have e : madeCells (Value.int IntKind.i64 0).cells n = (zeros n).toArray := by
    rw [show (Value.int IntKind.i64 0).cells = #[.int .i64 0] from rfl, zeros, ← toList_madeCells_one (.int .i64 0) n]
  rw [e]

theorem src_of {wr : World} {g k n : Nat} {t : TypeId} {cur cs : List Value} {x : Value} (hg : wr.heap[g]? = some (.cells cur.toArray t (0, 0))) (ht : cur.take k = List.replicate k x) (hcs : cs = List.replicate (Nat.min k (n - k)) x) :
    ∀ (j : Nat) (v : Value), cs[j]? = some v → wr.cell? ((⟨g, 0, none⟩ : Addr).add j) = some v := by
  intro j v hj
  have hmin : Nat.min k (n - k) ≤ k := Nat.min_le_left _ _
  rw [hcs, List.getElem?_replicate] at hj
  split at hj
  · rename_i hlt
    cases hj
    have h1 : (cur.take k)[j]? = some x := by rw [ht, List.getElem?_replicate, if_pos (by omega)]
    rw [List.getElem?_take, if_pos (by omega)] at h1
    by_cases h0 : j = 0
    · subst h0; simp [Addr.add, World.cell?, hg, h1]
    · simp [Addr.add, World.cell?, hg, h1, h0]
  · cases hj

theorem take_splice {k n : Nat} {cur cs : List Value} {x : Value} (ht : cur.take k = List.replicate k x) (hcs : cs = List.replicate (Nat.min k (n - k)) x) (hf : k + cs.length ≤ cur.length) :
    (splice cur k cs).take (k + cs.length) = List.replicate (k + cs.length) x := by
  have hl : (cur.take k).length = k := by simp; omega
  rw [splice, ← List.append_assoc, List.take_append_of_le_length (by simp; omega), List.take_of_length_le (by simp; omega), ht]
  have : cs = List.replicate cs.length x := by rw [hcs, List.length_replicate]
  rw [this, List.length_replicate, List.replicate_append_replicate]

theorem cells_rep {w : World} {g n : Nat} {t : TypeId} {v : Int} (hg : w.heap[g]? = some (.cells (List.replicate n (Value.int .i64 v)).toArray t (0, 0))) :
    (∀ j, j < (List.replicate n v).length → w.cell? ⟨g, 0 + j, none⟩ = some (.int .i64 ((List.replicate n v)[j]?.getD 0))) ∧ (∀ j, j < (List.replicate n v).length → w.frozen? ⟨g, 0 + j, none⟩ = false) := by
  refine ⟨fun j hj => ?_, fun j hj => ?_⟩
  · simp only [List.length_replicate] at hj
    simp [World.cell?, hg, hj]
  · simp [World.frozen?, hg]

theorem one_src {w : World} {b : Nat} {v : Value} {o : Obj} (hc : w.cell? ⟨b, 0, none⟩ = some v) : ∀ (j : Nat) (x : Value), [v][j]? = some x → (w.alloc o).cell? ⟨b, j, none⟩ = some x := by
  intro j x hj
  cases j with
  | zero =>
    simp at hj; subst hj
    rw [World.cell?_alloc_past _ _ _ (World.block_lt_of_cell? w _ hc)]; exact hc
  | succ j => simp at hj

end Go.Proofs.YtkdkdmjhhgllgaaGreatDoor

namespace Go.Proofs.YtkdkdmjhhgllgaaGreatDoor
open Go.RowKit

structure It where
  lo : Nat
  hi : Nat
  P : World → Prop
  loc : ∀ w w' : World, hi ≤ w.heap.size → w.heap.size ≤ w'.heap.size → (∀ k, lo ≤ k → k < hi → w'.heap[k]? = w.heap[k]?) → P w → P w'

/-- A block of cells. -/
def It.box (b : Nat) (c : Array Value) (t : TypeId) : It where
  lo := b
  hi := b + 1
  P := fun w => w.heap[b]? = some (.cells c t (0, 0))
  loc := fun _ _ _ _ h hp => (h b (Nat.le_refl _) (Nat.lt_succ_self _)).trans hp

/-- A slice of integers that may be written. -/
def It.own (lo hi : Nat) (a : Option Addr) (zs : List Int) : It where
  lo := lo
  hi := hi
  P := fun w => OwnInts w lo a zs ∧ ∀ p, a = some p → p.block < hi
  loc := fun w w' _ h2 h hp => by
    refine ⟨⟨fun p e => ⟨(hp.1.1 p e).1, Nat.lt_of_lt_of_le (hp.1.1 p e).2 h2⟩, fun h0 => ?_⟩, hp.2⟩
    obtain ⟨b, off, rfl, hc, hf⟩ := hp.1.2 h0
    have hb := (hp.1.1 _ rfl).1
    have hb2 := hp.2 _ rfl
    exact ⟨b, off, rfl, fun j hj => (World.cell?_of_block (w := w) (a := ⟨b, off + j, none⟩) (h b hb hb2)).trans (hc j hj), fun j hj => (World.frozen?_of_block (w := w) (a := ⟨b, off + j, none⟩) (h b hb hb2)).trans (hf j hj)⟩

/-- A slice of integers that is read, in blocks below hi. -/
def It.read (hi : Nat) (a : Option Addr) (zs : List Int) : It where
  lo := 0
  hi := hi
  P := fun w => IntsAt w a zs ∧ (0 < zs.length → ∀ p, a = some p → p.block < hi)
  loc := fun w w' _ _ h hp => by
    refine ⟨fun h0 => ?_, hp.2⟩
    obtain ⟨b, off, rfl, hc⟩ := hp.1 h0
    have hb2 := hp.2 h0 _ rfl
    exact ⟨b, off, rfl, fun j hj => (World.cell?_of_block (w := w) (a := ⟨b, off + j, none⟩) (h b (Nat.zero_le _) hb2)).trans (hc j hj)⟩

structure St (w0 w : World) (l : List It) : Prop where
  old : Below w0.heap.size w0 w
  all : ∀ i ∈ l, i.hi ≤ w.heap.size ∧ i.P w

theorem St.start (w : World) : St w w [] := ⟨Below.refl _ _, fun _ h => (by cases h)⟩

theorem St.size {w0 w : World} {l : List It} (h : St w0 w l) : w0.heap.size ≤ w.heap.size := h.old.size

theorem St.below {w0 w w' : World} {l : List It} (h : St w0 w l) (hb : Below w.heap.size w w') : St w0 w' l :=
  ⟨h.old.trans (hb.mono h.old.size), fun i hi => ⟨Nat.le_trans (h.all i hi).1 hb.size, i.loc w w' (h.all i hi).1 hb.size (fun k _ hk => hb.block k (Nat.lt_of_lt_of_le hk (h.all i hi).1)) (h.all i hi).2⟩⟩

theorem St.add {w0 w : World} {l : List It} (h : St w0 w l) (i : It) (hi : i.hi ≤ w.heap.size) (hp : i.P w) : St w0 w (i :: l) :=
  ⟨h.old, fun j hj => by
    rcases List.mem_cons.1 hj with rfl | hj
    · exact ⟨hi, hp⟩
    · exact h.all j hj⟩

theorem St.alloc {w0 w : World} {l : List It} (h : St w0 w l) (c : Array Value) (t : TypeId) : St w0 (w.alloc (.cells c t)) (It.box w.heap.size c t :: l) :=
  (h.below ((Below.refl _ _).alloc (Nat.le_refl _) _)).add _ (by simp [It.box]) (heap_alloc_new w _)

theorem St.alloc1 {w0 w w' : World} {l : List It} {c : Array Value} {t : TypeId} (h : St w0 w l) (hb : Below (w.alloc (.cells c t)).heap.size (w.alloc (.cells c t)) w') : St w0 w' (It.box w.heap.size c t :: l) :=
  (h.alloc c t).below hb

theorem St.alloc2 {w0 w w' : World} {l : List It} {c c2 : Array Value} {t t2 : TypeId} (h : St w0 w l) (hb : Below ((w.alloc (.cells c t)).alloc (.cells c2 t2)).heap.size ((w.alloc (.cells c t)).alloc (.cells c2 t2)) w') :
    St w0 w' (It.box (w.heap.size + 1) c2 t2 :: It.box w.heap.size c t :: l) := by
  have := ((h.alloc c t).alloc c2 t2).below hb
  rwa [World.size_alloc] at this

/-- A slice that a call has made. -/
theorem St.own {w0 w : World} {W : Nat} {l : List It} {a : Option Addr} {zs : List Int} (h : St w0 w l) (ho : OwnInts w W a zs) : St w0 w (It.own W w.heap.size a zs :: l) :=
  h.add _ (Nat.le_refl _) ⟨ho, fun p hp => (ho.1 p hp).2⟩

theorem St.read {w0 w : World} {l : List It} {a : Option Addr} {zs : List Int} (h : St w0 w l) (ho : IntsAt w a zs) : St w0 w (It.read w.heap.size a zs :: l) :=
  h.add _ (Nat.le_refl _) ⟨ho, fun h0 p hp => by
    obtain ⟨b, off, e, hc⟩ := ho h0
    rw [hp] at e; cases e
    exact World.block_lt_of_cell? w _ (hc 0 h0)⟩

/-- No item of the list lies where this one lies. -/
def Far (i : It) : List It → Prop
  | [] => True
  | j :: l => (j.hi ≤ i.lo ∨ i.hi ≤ j.lo) ∧ Far i l

theorem Far.all {i : It} {l : List It} (h : Far i l) : ∀ j ∈ l, j.hi ≤ i.lo ∨ i.hi ≤ j.lo := by
  induction l with
  | nil => intro j hj; cases hj
  | cons x l ih =>
    intro j hj
    rcases List.mem_cons.1 hj with rfl | hj
    · exact h.1
    · exact ih h.2 j hj

/-- One item's blocks have been written. -/
theorem St.write {w0 w w' : World} {l : List It} {i i' : It} {row : Option Nat} (h : St w0 w (i :: l)) (hg : w.grownBy w' row) (hr : ∀ k, row = some k → i.lo ≤ k ∧ k < i.hi) (hf : Far i l) (hlo : w0.heap.size ≤ i.lo)
    (hi' : i'.hi ≤ w'.heap.size) (hp : i'.P w') : St w0 w' (i' :: l) :=
  ⟨h.old.trans (grownBy_below hg h.old.size (fun k e => by have := (hr k e).1; omega)), fun j hj => by
    rcases List.mem_cons.1 hj with rfl | hj
    · exact ⟨hi', hp⟩
    · have hj' := h.all j (List.mem_cons_of_mem _ hj)
      refine ⟨Nat.le_trans hj'.1 hg.size, j.loc w w' hj'.1 hg.size (fun k h1 h2 => hg.block k (by omega) (fun e => ?_)) hj'.2⟩
      have := hr k e.symm
      rcases hf.all j hj with h3 | h3 <;> omega⟩

theorem St.mark {w0 w w' : World} {l : List It} {lo hi : Nat} {a : Option Addr} {zs ys : List Int} (h : St w0 w (It.own lo hi a zs :: l)) (hg : w.grownBy w' (a.map Addr.block)) (ho : OwnInts w' lo a ys) (hf : Far (It.own lo hi a zs) l) (hlo : w0.heap.size ≤ lo) :
    St w0 w' (It.own lo hi a ys :: l) := by
  have h0 := h.all _ (List.mem_cons_self ..)
  have hb : ∀ p, a = some p → p.block < hi := h0.2.2
  refine h.write hg (fun k e => ?_) hf hlo (Nat.le_trans h0.1 hg.size) ⟨ho, hb⟩
  cases a with
  | none => cases e
  | some p => cases e; exact ⟨(ho.1 p rfl).1, hb p rfl⟩

/-- The items in another order. -/
theorem St.turn {w0 w : World} {l l' : List It} (h : St w0 w l) (hl : ∀ i ∈ l', i ∈ l) : St w0 w l' := ⟨h.old, fun i hi => h.all i (hl i hi)⟩

theorem St.markAt {w0 w w' : World} {l : List It} {lo hi : Nat} {a : Option Addr} {zs ys : List Int} (h : St w0 w l) (hg : w.grownBy w' (a.map Addr.block)) (ho : OwnInts w' lo a ys) (n : Nat) (hn : l[n]? = some (It.own lo hi a zs))
    (hf : Far (It.own lo hi a zs) (l.eraseIdx n)) (hlo : w0.heap.size ≤ lo) : St w0 w' (l.set n (It.own lo hi a ys)) := by
  have h1 : St w0 w (It.own lo hi a zs :: l.eraseIdx n) := h.turn fun i hi => by
    rcases List.mem_cons.1 hi with rfl | hi
    · exact List.mem_of_getElem? hn
    · exact List.mem_of_mem_eraseIdx hi
  refine (h1.mark hg ho hf hlo).turn fun i hi => ?_
  obtain ⟨k, hk⟩ := List.getElem?_of_mem hi
  rw [List.getElem?_set] at hk
  split at hk
  · split at hk
    · cases hk; exact List.mem_cons_self ..
    · cases hk
  · rename_i hne
    refine List.mem_cons_of_mem _ ?_
    rw [List.mem_eraseIdx_iff_getElem?]
    exact ⟨k, Ne.symm hne, hk⟩

theorem St.get {w0 w : World} {l : List It} (h : St w0 w l) (n : Nat) {i : It} (hi : l[n]? = some i) : i.P w := (h.all i (List.mem_of_getElem? hi)).2
theorem St.ints {w0 w : World} {l : List It} {lo hi : Nat} {a : Option Addr} {zs : List Int} (h : St w0 w l) (n : Nat) (hi : l[n]? = some (It.own lo hi a zs)) : IntsAt w a zs := (h.get n hi).1.ints
theorem St.owns {w0 w : World} {l : List It} {lo hi : Nat} {a : Option Addr} {zs : List Int} (h : St w0 w l) (n : Nat) (hi : l[n]? = some (It.own lo hi a zs)) : OwnInts w lo a zs := (h.get n hi).1
theorem St.reads {w0 w : World} {l : List It} {hi : Nat} {a : Option Addr} {zs : List Int} (h : St w0 w l) (n : Nat) (hi : l[n]? = some (It.read hi a zs)) : IntsAt w a zs := (h.get n hi).1
theorem St.cells {w0 w : World} {l : List It} {b : Nat} {c : Array Value} {t : TypeId} (h : St w0 w l) (n : Nat) (hi : l[n]? = some (It.box b c t)) : w.heap[b]? = some (.cells c t (0, 0)) := h.get n hi

/-- A store into a block that is in no item's range. -/
theorem St.setFar {w0 w : World} {l : List It} (h : St w0 w l) {p : Addr} (hf : Far (It.box p.block #[] 0) l) (hlo : w0.heap.size ≤ p.block) (v : Value) : St w0 (w.setCell p v) l :=
  ⟨h.old.setCell hlo v, fun j hj => by
    have hj' := h.all j hj
    have hz : (w.setCell p v).heap.size = w.heap.size := by simp [World.setCell]
    refine ⟨by rw [hz]; exact hj'.1, j.loc w _ hj'.1 (by omega) (fun k h1 h2 => Below.heap_setCell w p v k (fun e => ?_)) hj'.2⟩
    rcases hf.all j hj with h3 | h3
    · have : (It.box p.block #[] 0).lo = p.block := rfl
      omega
    · have : (It.box p.block #[] 0).hi = p.block + 1 := rfl
      omega⟩

theorem St.drew {w0 w : World} {l : List It} (h : St w0 w l) : St w0 w.drew l := h.below ((Below.refl _ _).drew)

theorem facts1 {w : World} {b : Nat} {x : Value} {T : TypeId} (h : w.heap[b]? = some (.cells #[x] T (0, 0))) :
    w.cell? ⟨b, 0, none⟩ = some x ∧ w.frozen? ⟨b, 0, none⟩ = false ∧ b < w.heap.size :=
  ⟨by simp [World.cell?, h], by simp [World.frozen?, h], (Array.getElem?_eq_some_iff.1 h).1⟩

/-- What a block of three cells tells the walk. -/
theorem facts3 {w : World} {b : Nat} {x y z : Value} {T : TypeId} (h : w.heap[b]? = some (.cells #[x, y, z] T (0, 0))) :
    w.cell? ⟨b, 0, none⟩ = some x ∧ w.cell? ⟨b, 1, none⟩ = some y ∧ w.cell? ⟨b, 2, none⟩ = some z ∧
    w.frozen? ⟨b, 0, none⟩ = false ∧ w.frozen? ⟨b, 1, none⟩ = false ∧ w.frozen? ⟨b, 2, none⟩ = false ∧ b < w.heap.size :=
  ⟨by simp [World.cell?, h], by simp [World.cell?, h], by simp [World.cell?, h], by simp [World.frozen?, h], by simp [World.frozen?, h], by simp [World.frozen?, h], (Array.getElem?_eq_some_iff.1 h).1⟩

end Go.Proofs.YtkdkdmjhhgllgaaGreatDoor

namespace Go.Proofs.YtkdkdmjhhgllgaaGreatDoor
open Go.RowKit

/-- A table as a value. -/
abbrev tbl (t p : Int) (a : Option Addr) (n c : Nat) : Value := .agg #[.int .i64 t, .int .i64 p, .slice a n c]

theorem bcell {W w1 : World} (hb : Below W.heap.size W w1) : (∀ b o, b < W.heap.size → w1.cell? ⟨b, o, none⟩ = W.cell? ⟨b, o, none⟩) ∧ (∀ b o, b < W.heap.size → w1.frozen? ⟨b, o, none⟩ = W.frozen? ⟨b, o, none⟩) :=
  ⟨fun b o h => hb.cell (p := ⟨b, o, none⟩) h, fun b o h => hb.frozen (p := ⟨b, o, none⟩) h⟩

/-- What three cells of a block hold in a world, and that they may be written, holds behind what keeps that block. -/
theorem cells3 {W w1 : World} {b : Nat} {x y z : Value} (hb : Below W.heap.size W w1) (hlt : b < W.heap.size)
    (h : W.cell? ⟨b, 0, none⟩ = some x ∧ W.cell? ⟨b, 1, none⟩ = some y ∧ W.cell? ⟨b, 2, none⟩ = some z ∧ (∀ o, W.frozen? ⟨b, o, none⟩ = false)) :
    w1.cell? ⟨b, 0, none⟩ = some x ∧ w1.cell? ⟨b, 1, none⟩ = some y ∧ w1.cell? ⟨b, 2, none⟩ = some z ∧ w1.frozen? ⟨b, 0, none⟩ = false ∧ w1.frozen? ⟨b, 1, none⟩ = false ∧ w1.frozen? ⟨b, 2, none⟩ = false :=
  ⟨(hb.cell (p := ⟨b, 0, none⟩) hlt).trans h.1, (hb.cell (p := ⟨b, 1, none⟩) hlt).trans h.2.1, (hb.cell (p := ⟨b, 2, none⟩) hlt).trans h.2.2.1,
   (hb.frozen (p := ⟨b, 0, none⟩) hlt).trans (h.2.2.2 0), (hb.frozen (p := ⟨b, 1, none⟩) hlt).trans (h.2.2.2 1), (hb.frozen (p := ⟨b, 2, none⟩) hlt).trans (h.2.2.2 2)⟩

/-- A new block of three cells, another one behind it. -/
theorem res3 (w : World) (x y z : Value) (T : TypeId) (o : Obj) :
    ((w.alloc (.cells #[x, y, z] T)).alloc o).cell? ⟨w.heap.size, 0, none⟩ = some x ∧ ((w.alloc (.cells #[x, y, z] T)).alloc o).cell? ⟨w.heap.size, 1, none⟩ = some y ∧
    ((w.alloc (.cells #[x, y, z] T)).alloc o).cell? ⟨w.heap.size, 2, none⟩ = some z ∧ (∀ k, ((w.alloc (.cells #[x, y, z] T)).alloc o).frozen? ⟨w.heap.size, k, none⟩ = false) := by
  refine ⟨?_, ?_, ?_, fun k => ?_⟩
  · rw [World.cell?_alloc_past _ _ _ (by simp), World.cell?_alloc_at _ _ _ _ rfl]; rfl
  · rw [World.cell?_alloc_past _ _ _ (by simp), World.cell?_alloc_at _ _ _ _ rfl]; rfl
  · rw [World.cell?_alloc_past _ _ _ (by simp), World.cell?_alloc_at _ _ _ _ rfl]; rfl
  · rw [World.frozen?_alloc_past _ _ _ (by simp)]; exact World.frozen?_alloc_at _ _ _ _ rfl

theorem res3' (w : World) (x y z : Value) (T : TypeId) :
    (w.alloc (.cells #[x, y, z] T)).cell? ⟨w.heap.size, 0, none⟩ = some x ∧ (w.alloc (.cells #[x, y, z] T)).cell? ⟨w.heap.size, 1, none⟩ = some y ∧
    (w.alloc (.cells #[x, y, z] T)).cell? ⟨w.heap.size, 2, none⟩ = some z ∧ (∀ k, (w.alloc (.cells #[x, y, z] T)).frozen? ⟨w.heap.size, k, none⟩ = false) := by
  refine ⟨?_, ?_, ?_, fun k => ?_⟩
  · rw [World.cell?_alloc_at _ _ _ _ rfl]; rfl
  · rw [World.cell?_alloc_at _ _ _ _ rfl]; rfl
  · rw [World.cell?_alloc_at _ _ _ _ rfl]; rfl
  · exact World.frozen?_alloc_at _ _ _ _ rfl

theorem set3 {B : Nat} {w0 w : World} {b : Nat} (h : Below B w0 w) (hb : B ≤ b) (x y z : Value) : Below B w0 (((w.setCell ⟨b, 0, none⟩ x).setCell ⟨b, 1, none⟩ y).setCell ⟨b, 2, none⟩ z) :=
  ((h.setCell (p := ⟨b, 0, none⟩) hb x).setCell (p := ⟨b, 1, none⟩) hb y).setCell (p := ⟨b, 2, none⟩) hb z

/-- Behind k rounds: the result's own cells at B, the table at B + 2, whose slots are a row of the call's own. -/
structure FreeRel (w : World) (t p : Int) (k : Nat) (v : Value) (wr : World) : Prop where
  res : wr.heap[w.heap.size]? = some (.cells #[.int .i64 0, .int .i64 0, .slice none 0 0] 25 (0, 0))
  out : wr.heap[w.heap.size + 1 + 1]? = some (.cells #[.int .i64 t, .int .i64 p, v] 25 (0, 0))
  own : wr.ownsRow (w.heap.size + 1) 3 1 v k (List.replicate k (.int .i64 (-1)))
  old : Below w.heap.size w wr

theorem ownsRow_ne {w : World} {base : Nat} {e T : TypeId} {size : Nat} {v : Value} {n : Nat} {xs : List Value} {b : Nat} {c : Array Value} {f : Nat × Nat} (h : w.ownsRow base e size v n xs) (hb : w.heap[b]? = some (.cells c T f)) (hne : e ≠ T) : v.ownBlock ≠ some b := by
  intro hv
  rcases h.2 with ⟨rfl, _⟩ | ⟨g, cap, cur, rfl, _, hg, _⟩
  · cases hv
  · cases hv
    rw [hg] at hb
    cases hb
    exact hne rfl

theorem new3 (w : World) (c c1 c2 : Array Value) (t t1 t2 : TypeId) : (((w.alloc (.cells c t)).alloc (.cells c1 t1)).alloc (.cells c2 t2)).heap[w.heap.size]? = some (.cells c t (0, 0)) := by
  rw [Below.heap_alloc _ _ _ (by simp; omega), Below.heap_alloc _ _ _ (by simp)]; exact heap_alloc_new w _

theorem new3' (w : World) (o o1 : Obj) (c2 : Array Value) (t2 : TypeId) : (((w.alloc o).alloc o1).alloc (.cells c2 t2)).heap[w.heap.size + 1 + 1]? = some (.cells c2 t2 (0, 0)) := by
  have := heap_alloc_new ((w.alloc o).alloc o1) (.cells c2 t2)
  simpa using this

theorem setCell_at {w : World} {b : Nat} {c : Array Value} {e : TypeId} {f : Nat × Nat} (h : w.heap[b]? = some (.cells c e f)) (o : Nat) (v : Value) : (w.setCell ⟨b, o, none⟩ v).heap[b]? = some (.cells (c.setIfInBounds o v) e f) := by
  simp [World.setCell, Array.getElem?_modify, h]

theorem ownsRow_slice {w : World} {base : Nat} {e : TypeId} {size : Nat} {v : Value} {n : Nat} {xs : List Value} (h : w.ownsRow base e size v n xs) : ∃ a c, v = .slice a n c := by
  rcases h.2 with ⟨rfl, rfl⟩ | ⟨g, cap, cur, rfl, _⟩
  · exact ⟨_, _, rfl⟩
  · exact ⟨_, _, rfl⟩

theorem ownsRow_ints {w : World} {base : Nat} {e : TypeId} {a : Option Addr} {n c : Nat} {zs : List Int} (h : w.ownsRow base e 1 (.slice a n c) n (zs.map (Value.int .i64))) : OwnInts w base a zs := by
  have hl : zs.length = n := by have := h.1; simpa using this
  rcases h.2 with ⟨hv, h0⟩ | ⟨g, cap, cur, hv, hg, hh, _, _, _, ht⟩
  · cases hv
    exact ⟨fun _ h => (by cases h), fun h => (by omega)⟩
  · cases hv
    have key : ∀ j, j < zs.length → cur[j]? = some (.int .i64 (zs[j]?.getD 0)) := by
      intro j hj
      have h1 : (cur.toList.take (n * 1))[j]? = (zs.map (Value.int .i64))[j]? := by rw [ht]
      rw [List.getElem?_take, if_pos (by omega), List.getElem?_map, List.getElem?_eq_getElem hj] at h1
      rw [List.getElem?_eq_getElem hj]
      simpa using h1
    refine ⟨fun p hp => by cases hp; exact ⟨hg, (Array.getElem?_eq_some_iff.1 hh).1⟩, fun _ => ⟨g, 0, rfl, fun j hj => ?_, fun j _ => ?_⟩⟩
    · rw [Nat.zero_add]
      simp [World.cell?, hh, key j hj]
    · simp [World.frozen?, hh]

theorem ownsRow_more {w : World} {base : Nat} {e : TypeId} {size : Nat} {v : Value} {n : Nat} {xs : List Value} (h : w.ownsRow base e size v (n + 1) xs) : ∃ g cap, v = .slice (some ⟨g, 0, none⟩) (n + 1) cap := by
  rcases h.2 with ⟨_, h0⟩ | ⟨g, cap, cur, rfl, _⟩
  · omega
  · exact ⟨g, cap, rfl⟩

theorem FreeRel.step {w : World} {t p : Int} {k : Nat} {v v' : Value} {wr w1 : World} {o : Obj} (h : FreeRel w t p k v wr) (hown : w1.ownsRow (w.heap.size + 1) 3 1 v' (k + 1) (List.replicate k (.int .i64 (-1)) ++ [.int .i64 (-1)]))
    (hg : (wr.alloc o).grownBy w1 v.ownBlock) : FreeRel w t p (k + 1) v' (w1.setCell ⟨w.heap.size + 1 + 1, 2, none⟩ v') ∧
      w1.heap[w.heap.size]? = some (.cells #[.int .i64 0, .int .i64 0, .slice none 0 0] 25 (0, 0)) ∧
      w1.heap[w.heap.size + 1 + 1]? = some (.cells #[.int .i64 t, .int .i64 p, v] 25 (0, 0)) := by
  have hn0 := ownsRow_ne h.own h.res (by decide)
  have hn2 := ownsRow_ne h.own h.out (by decide)
  have s0 := (Array.getElem?_eq_some_iff.1 h.res).1
  have s2 := (Array.getElem?_eq_some_iff.1 h.out).1
  have e0 : w1.heap[w.heap.size]? = _ := (hg.block _ (by simp; omega) (Ne.symm hn0)).trans ((Below.heap_alloc wr o _ s0).trans h.res)
  have e2 : w1.heap[w.heap.size + 1 + 1]? = _ := (hg.block _ (by simp; omega) (Ne.symm hn2)).trans ((Below.heap_alloc wr o _ s2).trans h.out)
  refine ⟨⟨?_, ?_, ?_, ?_⟩, e0, e2⟩
  · rw [Below.heap_setCell _ _ _ _ (by simp; omega)]; exact e0
  · exact setCell_at e2 _ _
  · rw [← List.replicate_succ'] at hown
    exact hown.kept (row := some (w.heap.size + 1 + 1)) ⟨rfl, rfl, rfl, by simp [World.setCell], fun j _ hj => Below.heap_setCell _ _ _ _ (fun e => hj (by rw [e]))⟩ (.inr (ownsRow_ne hown e2 (by decide)))
  · exact (h.old.trans (((Below.refl _ _).alloc (by omega) o).trans (grownBy_below hg (by simp; omega) (fun j hj => Nat.le_of_succ_le (h.own.lt j hj).1)))).setCell (by simp; omega) _

set_option maxHeartbeats 400000 in
set_option maxRecDepth 100000 in
theorem l1Free_any (n : Nat) (t p : Int) (w : World) (hn : n ≤ 16) :
    Calls Tryz.prog 45 #[.int .i64 n, .int .i64 t, .int .i64 p] w fun e w' => ∃ a c, e = .returned (tbl t p a n c) ∧ OwnInts w' w.heap.size a (List.replicate n (-1)) ∧ Below w.heap.size w w' ∧ w'.ownsRow (w.heap.size + 1) 3 1 (.slice a n c) n ((List.replicate n (-1)).map (Value.int .i64)) := by
  go_enter Tryz.func45, Tryz.ntmps45
  go_wp2
  go_loopw [13] (fun i wr => ∃ (k : Nat) (v : Value), k ≤ n ∧ i = .int .i64 k ∧ FreeRel w t p k v wr) (fun i _ => n - (intOf i).toNat)
  case atStart =>
    refine ⟨0, .slice (some ⟨w.heap.size + 1, 0, none⟩) 0 0, Nat.zero_le _, rfl, ⟨?_, ?_, ?_, ((((Below.refl _ _).alloc (Nat.le_refl _) _).alloc (by simp) _).alloc (by simp; omega) _)⟩⟩
    · exact new3 w _ _ _ _ _ _
    · exact new3' w _ _ _ _
    · have h := World.ownsRow_made (w := w.alloc (.cells #[.int .i64 0, .int .i64 0, .slice none 0 0] 25)) (base := w.heap.size + 1) (e := 3) (size := 1) #[] 0 (by simp) (by unfold maxLen; omega) rfl
      rw [World.size_alloc] at h
      exact h.alloc _
  case round =>
    obtain ⟨k, v, hk, rfl, hr⟩ := hrel
    obtain ⟨q0, q1, q2, f0, f1, f2, hB⟩ := facts3 hr.out
    have HR := Lib.hid hr
    clear hr
    by_cases hlt : k < n
    · obtain ⟨i0, hi, hz0, hz1, hz2⟩ := info_parts Tryz.info3
      have hown := HR.out.own
      go_wp2_with (at_builtin; go_loud (refine wpList_append_own _ rfl _ _ 23 rfl (w.heap.size + 1) 3 i0 (.int .i64 0) 1 8 Tryz.underlying23 hi hz0 hz1 hz2 rfl (by decide) _ _ _ rfl (hown.alloc _) ⟨wr.heap.size, 0, none⟩ 1 1 [.int .i64 (-1)] rfl rfl (cell_one_new _ _ _) (by simp [Value.oneCell']) (by unfold maxLen; omega) (by omega) (by simp; omega) ?_))
      intro v' w1 hown1 hgrow1 _
      obtain ⟨g', cap', rfl⟩ := ownsRow_more hown1
      have hs := HR.out.step hown1 hgrow1
      clear hown hown1 hgrow1
      obtain ⟨r0, r1, r2, g0, g1, g2, hB'⟩ := facts3 hs.2.2
      have HS := Lib.hid hs
      clear hs
      go_wp2
      go_roundw
      case rel => exact ⟨k + 1, _, by omega, by go_num, HS.out.1⟩
      case measure => simp [intOf]; omega
    · obtain ⟨z0, z1, z2, e0, e1, e2, hz⟩ := facts3 HR.out.res
      obtain ⟨a, c, rfl⟩ := ownsRow_slice HR.out.own
      have e : k = n := by omega
      subst e
      go_wp2
      refine bodyPost_ret (v := tbl t p a k c) (by simp [results, Tryz.results45, go_sem, z0, z1, z2]) rfl ⟨a, c, rfl, ?_, set3 HR.out.old (Nat.le_refl _) _ _ _, ?_⟩
      · have ho := (ownsRow_ints (by rw [List.map_replicate]; exact HR.out.own) : OwnInts wr (w.heap.size + 1) a (List.replicate k (-1)))
        exact (((ho.setOther (p := ⟨w.heap.size, 0, none⟩) (by simp) _).setOther (p := ⟨w.heap.size, 1, none⟩) (by simp) _).setOther (p := ⟨w.heap.size, 2, none⟩) (by simp) _).mono (by simp)
      · rw [List.map_replicate]
        exact ownsRow_setCell_below (ownsRow_setCell_below (ownsRow_setCell_below HR.out.own (by show w.heap.size < _; omega) _) (by show w.heap.size < _; omega) _) (by show w.heap.size < _; omega) _

end Go.Proofs.YtkdkdmjhhgllgaaGreatDoor

namespace Go.Proofs.YtkdkdmjhhgllgaaGreatDoor
open Go.RowKit

set_option maxHeartbeats 400000 in
theorem l1Find_any (a : Option Addr) (c : Nat) (zs : List Int) (n : Int) (w : World) (hx : zs.length ≤ 9223372036854775807) (h1 : IntsAt w a zs) :
    Calls Tryz.prog 81 #[.slice a zs.length c, .int .i64 n] w fun e w' => e = .returned (.int .i64 (fnd zs n)) ∧ w = w' := by
  go_enter Tryz.func81, Tryz.ntmps81
  go_wp2
  go_loop [9] (fun i => ∃ k : Nat, k ≤ zs.length ∧ i = .int .i64 k ∧ (∀ j, j < k → nth zs j ≠ n)) (fun i => zs.length - (intOf i).toNat)
  case atStart => exact ⟨0, Nat.zero_le _, rfl, fun _ h => (by omega)⟩
  case round =>
    obtain ⟨k, hk, rfl, hn⟩ := hrel
    have HN := Lib.hid hn
    clear hn
    by_cases hlt : k < zs.length
    · obtain ⟨b, o, x, rfl, q, X⟩ := h1.at hlt
      cases he : (x == n)
      · have hne : nth zs k ≠ n := by rw [X.out]; simpa using he
        have HNE := Lib.hid hne
        clear hne
        go_wp2
        go_round
        case rel => exact ⟨k + 1, by omega, by go_num, ne_step HN.out HNE.out⟩
        case measure => simp [intOf]; omega
      · have heq : nth zs k = n := by rw [X.out]; simpa using he
        have F := Lib.hid (fnd_at hlt HN.out heq)
        clear heq
        go_wp2
        go_ret
        exact ⟨ret_int F.out.symm, rfl⟩
    · go_wp2
      go_ret
      have e : k = zs.length := by omega
      exact ⟨ret_int (fnd_none (fun j hj => HN.out j (by omega))).symm, rfl⟩

/-- A table as a value. -/
abbrev tabV (T : Tab) (a : Option Addr) (c : Nat) : Value := .agg #[.int .i64 T.t, .int .i64 T.p, .slice a T.zs.length c]

theorem bad_valid {T : Tab} {k : Nat} {x : Int} (hk : k < T.zs.length) (hx : nth T.zs k = x) (h : ¬ (inB x (-2) 99 = true ∧ (0 ≤ x → ∀ j, j < k → nth T.zs j ≠ x))) : false = validB T := by
  subst hx
  have := not_good hk h
  symm
  rw [Bool.eq_false_iff]
  exact fun hv => this (validB_iff.1 hv).2
theorem head_valid {T : Tab} (h : headB T.zs.length T.t T.p = false) : false = validB T := by simp [validB, h]
theorem good_valid {T : Tab} (h : headB T.zs.length T.t T.p = true) (hg : Good T.zs T.zs.length) : true = validB T := (validB_iff.2 ⟨h, hg⟩).symm

set_option maxHeartbeats 1000000 in
theorem specTableValid_any (T : Tab) (a : Option Addr) (c : Nat) (w : World) (hx : T.zs.length ≤ 9223372036854775807) (h1 : IntsAt w a T.zs) :
    Calls Tryz.prog 46 #[tabV T a c] w fun e w' => e = .returned (.bool (validB T)) ∧ Below w.heap.size w w' := by
  cases hh : headB T.zs.length T.t T.p
  · go_enter Tryz.func46, Tryz.ntmps46
    go_wp2_with (go_at_call 79; refine (l1Head_any _ _ _ _).mono ?_; rintro e w' ⟨rfl, rfl⟩)
    go_ret
    exact ⟨ret_bool (head_valid hh), (Below.refl _ _).alloc (Nat.le_refl _) _⟩
  · have H := Lib.hid hh
    have S1 := (St.start w).read h1 |>.alloc #[.int .i64 T.t, .int .i64 T.p, .slice a T.zs.length c] 25
    have hI := Lib.hid (S1.reads 1 rfl)
    obtain ⟨x0, x1, x2, _, _, _, xz⟩ := facts3 (S1.cells 0 rfl)
    go_enter Tryz.func46, Tryz.ntmps46
    go_wp2_with (go_at_call 79; refine (l1Head_any _ _ _ _).mono ?_; rintro e w' ⟨rfl, rfl⟩)
    go_loop [3, 4, 17] (fun _ _ i => ∃ k : Nat, k ≤ T.zs.length ∧ i = .int .i64 k ∧ Good T.zs k) (fun _ _ i => T.zs.length - (intOf i).toNat)
    case atStart => exact ⟨0, Nat.zero_le _, rfl, Good.zero _⟩
    case round =>
      obtain ⟨k, hk, rfl, hg⟩ := hrel
      have G := Lib.hid hg
      clear hg
      by_cases hlt : k < T.zs.length
      · obtain ⟨b, o, x, rfl, q, X⟩ := hI.out.at hlt
        cases hv : inB x (-2) 99
        · go_wp2_with (first | (go_at_call 80; refine (l1In_any _ _ _ _).mono ?_; rintro e w' ⟨rfl, rfl⟩))
          go_ret
          exact ⟨ret_bool (bad_valid hlt X.out (by simp [hv])), S1.old⟩
        · by_cases h0 : 0 ≤ x
          · cases hf : (fnd T.zs x != k)
            · go_wp2_with (first | (go_at_call 80; refine (l1In_any _ _ _ _).mono ?_; rintro e w' ⟨rfl, rfl⟩) | (go_at_call 81; refine (l1Find_any _ _ _ _ _ hx hI.out).mono ?_; rintro e w' ⟨rfl, rfl⟩))
              go_round
              case rel => exact ⟨k + 1, by omega, by go_num, G.out.succ (by rw [X.out]; exact hv) (fnd_step hlt X.out hf)⟩
              case measure => simp [intOf]; omega
            · go_wp2_with (first | (go_at_call 80; refine (l1In_any _ _ _ _).mono ?_; rintro e w' ⟨rfl, rfl⟩) | (go_at_call 81; refine (l1Find_any _ _ _ _ _ hx hI.out).mono ?_; rintro e w' ⟨rfl, rfl⟩))
              go_ret
              exact ⟨ret_bool (bad_valid hlt X.out (fnd_bad hlt X.out h0 hf)), S1.old⟩
          · go_wp2_with (first | (go_at_call 80; refine (l1In_any _ _ _ _).mono ?_; rintro e w' ⟨rfl, rfl⟩))
            go_round
            case rel => exact ⟨k + 1, by omega, by go_num, G.out.succ (by rw [X.out]; exact hv) (by rw [X.out]; intro h; omega)⟩
            case measure => simp [intOf]; omega
      · go_wp2
        go_ret
        have e : k = T.zs.length := by omega
        have hg := G.out
        rw [e] at hg
        exact ⟨ret_bool (good_valid H.out hg), S1.old⟩

/-- The array of what has been seen: a key is marked just if one of the first k slots holds it. -/
def Seen (zs : List Int) (k : Nat) (b : Nat) (w : World) : Prop :=
  ∀ x : Nat, x < 100 → w.cell? ⟨b, x, none⟩ = some (.bool (decide (∃ j, j < k ∧ nth zs j = x))) ∧ w.frozen? ⟨b, x, none⟩ = false

theorem seen_start (zs : List Int) (w : World) (o : Obj) : Seen zs 0 (w.heap.size + 1) ((w.alloc o).alloc (.cells (Array.replicate 100 (.bool false)) 123)) := by
  intro x hx
  refine ⟨?_, World.frozen?_alloc_at _ _ _ _ (by simp)⟩
  rw [World.cell?_alloc_at _ _ _ _ (by simp)]
  simp [hx]
theorem seen_skip {zs : List Int} {k b : Nat} {w : World} (h : Seen zs k b w) (hn : nth zs k < 0) : Seen zs (k + 1) b w := by
  intro x hx
  refine ⟨?_, (h x hx).2⟩
  rw [(h x hx).1]
  congr 2
  rw [decide_eq_decide]
  constructor
  · rintro ⟨j, hj, he⟩; exact ⟨j, by omega, he⟩
  · rintro ⟨j, hj, he⟩
    by_cases e : j = k
    · subst e; omega
    · exact ⟨j, by omega, he⟩
theorem seen_mark {zs : List Int} {k b m : Nat} {w : World} (h : Seen zs k b w) (he : nth zs k = m) (hm : m < 100) : Seen zs (k + 1) b (w.setCell ⟨b, m, none⟩ (.bool true)) := by
  intro x hx
  refine ⟨?_, (World.frozen?_setCell _ _ _ _).trans (h x hx).2⟩
  by_cases e : x = m
  · subst e
    rw [World.cell?_setCell_same _ _ _ (h x hx).1]
    congr 2
    symm
    rw [decide_eq_true_eq]
    exact ⟨k, by omega, he⟩
  · rw [World.cell?_setCell_other _ _ _ _ (by simp only [ne_eq, Addr.mk.injEq, true_and, and_true]; omega), (h x hx).1]
    congr 2
    rw [decide_eq_decide]
    constructor
    · rintro ⟨j, hj, hj2⟩; exact ⟨j, by omega, hj2⟩
    · rintro ⟨j, hj, hj2⟩
      by_cases e2 : j = k
      · subst e2; omega
      · exact ⟨j, by omega, hj2⟩

set_option maxHeartbeats 1000000 in
theorem TableValid_yes (T : Tab) (a : Option Addr) (c : Nat) (w : World) (hx : T.zs.length ≤ 9223372036854775807) (h1 : IntsAt w a T.zs) (hh : headB T.zs.length T.t T.p = true) :
    Calls Tryz.prog 58 #[tabV T a c] w fun e w' => e = .returned (.bool (validB T)) ∧ Below w.heap.size w w' := by
  obtain ⟨e1, e2, e3⟩ := head_size hh
  have H := Lib.hid hh
  clear hh
  have S1 := (St.start w).read h1 |>.alloc #[.int .i64 T.t, .int .i64 T.p, .slice a T.zs.length c] 25
  obtain ⟨x0, x1, x2, _, _, _, xz⟩ := facts3 (S1.cells 0 rfl)
  go_enter Tryz.func58, Tryz.ntmps58
  go_wp2_with (first | (go_at_call 62; refine (isTimes_any _ _).mono ?_; rintro e w' ⟨rfl, rfl⟩) | (go_at_call 61; refine (isSize_any _ _).mono ?_; rintro e w' ⟨rfl, rfl⟩))
  go_loopw [5, 26] (fun _ i wr => ∃ k : Nat, k ≤ T.zs.length ∧ i = .int .i64 k ∧ Good T.zs k ∧ Seen T.zs k (w.heap.size + 1) wr ∧ St w wr [It.box w.heap.size #[.int .i64 T.t, .int .i64 T.p, .slice a T.zs.length c] 25, It.read w.heap.size a T.zs]) (fun _ i _ => T.zs.length - (intOf i).toNat)
  case atStart => exact ⟨0, Nat.zero_le _, rfl, Good.zero _, seen_start _ _ _, S1.below ((Below.refl _ _).alloc (Nat.le_refl _) _)⟩
  case round =>
    obtain ⟨k, hk, rfl, hg, hs, hst⟩ := hrel
    have G := Lib.hid hg
    have SN := Lib.hid hs
    clear hg hs x0 x1 x2 xz S1
    by_cases hlt : k < T.zs.length
    · obtain ⟨b, o, x, rfl, q, X⟩ := (hst.reads 1 rfl).at hlt
      cases hv : inB x (-2) 99
      · go_wp2_with (first | (go_at_call 89; refine (isValid_any _ _).mono ?_; rintro e w' ⟨rfl, rfl⟩) | (go_at_call 49; refine (isKey_any _ _).mono ?_; rintro e w' ⟨rfl, rfl⟩))
        go_ret
        exact ⟨ret_bool (bad_valid hlt X.out (by simp [hv])), hst.old⟩
      · cases h0 : inB x 0 99
        · go_wp2_with (first | (go_at_call 89; refine (isValid_any _ _).mono ?_; rintro e w' ⟨rfl, rfl⟩) | (go_at_call 49; refine (isKey_any _ _).mono ?_; rintro e w' ⟨rfl, rfl⟩))
          go_roundw
          case rel => exact ⟨k + 1, by omega, by go_num, G.out.succ (by rw [X.out]; exact hv) (by rw [X.out]; intro h; have h1 := inB_false.1 h0; have h2 := inB_iff.1 hv; omega), seen_skip SN.out (by rw [X.out]; have h1 := inB_false.1 h0; have h2 := inB_iff.1 hv; omega), hst⟩
          case measure => simp [intOf]; omega
        · obtain ⟨hx0, hx9⟩ := inB_iff.1 h0
          obtain ⟨m, rfl⟩ : ∃ m : Nat, x = m := ⟨x.toNat, by omega⟩
          obtain ⟨s1, s2⟩ := SN.out m (by omega)
          cases hd : decide (∃ j, j < k ∧ nth T.zs j = m)
          · rw [hd] at s1
            go_wp2_with (first | (go_at_call 89; refine (isValid_any _ _).mono ?_; rintro e w' ⟨rfl, rfl⟩) | (go_at_call 49; refine (isKey_any _ _).mono ?_; rintro e w' ⟨rfl, rfl⟩))
            go_roundw
            case rel =>
              refine ⟨k + 1, by omega, by go_num, G.out.succ (by rw [X.out]; exact hv) ?_, seen_mark SN.out X.out (by omega), hst.setFar (by simp [Far, It.box, It.read]) (by simp) _⟩
              intro _ j hj he
              exact (of_decide_eq_false hd) ⟨j, hj, by rw [he, X.out]⟩
            case measure => simp [intOf]; omega
          · rw [hd] at s1
            go_wp2_with (first | (go_at_call 89; refine (isValid_any _ _).mono ?_; rintro e w' ⟨rfl, rfl⟩) | (go_at_call 49; refine (isKey_any _ _).mono ?_; rintro e w' ⟨rfl, rfl⟩))
            go_ret
            refine ⟨ret_bool (bad_valid hlt X.out ?_), hst.old⟩
            rintro ⟨_, h⟩
            obtain ⟨j, hj, he⟩ := of_decide_eq_true hd
            exact h (by omega) j hj he
    · go_wp2
      go_ret
      have e : k = T.zs.length := by omega
      have hg := G.out
      rw [e] at hg
      exact ⟨ret_bool (good_valid H.out hg), hst.old⟩

set_option maxHeartbeats 1000000 in
theorem TableValid_no (T : Tab) (a : Option Addr) (c : Nat) (w : World) (hh : headB T.zs.length T.t T.p = false) :
    Calls Tryz.prog 58 #[tabV T a c] w fun e w' => e = .returned (.bool (validB T)) ∧ Below w.heap.size w w' := by
  have H := Lib.hid hh
  unfold headB at hh
  cases e1 : inB T.zs.length 1 16
  all_goals cases e2 : inB T.t 0 15
  all_goals cases e3 : inB T.p 0 15
  all_goals try (exfalso; simp [e1, e2, e3] at hh; done)
  all_goals clear hh
  all_goals
    go_enter Tryz.func58, Tryz.ntmps58
    go_wp2_with (first | (go_at_call 62; refine (isTimes_any _ _).mono ?_; rintro e w' ⟨rfl, rfl⟩) | (go_at_call 61; refine (isSize_any _ _).mono ?_; rintro e w' ⟨rfl, rfl⟩))
    go_ret
    exact ⟨ret_bool (head_valid H.out), (Below.refl _ _).alloc (Nat.le_refl _) _⟩

theorem TableValid_any (T : Tab) (a : Option Addr) (c : Nat) (w : World) (hx : T.zs.length ≤ 9223372036854775807) (h1 : IntsAt w a T.zs) :
    Calls Tryz.prog 58 #[tabV T a c] w fun e w' => e = .returned (.bool (validB T)) ∧ Below w.heap.size w w' := by
  cases h : headB T.zs.length T.t T.p
  · exact TableValid_no T a c w h
  · exact TableValid_yes T a c w hx h1 h

end Go.Proofs.YtkdkdmjhhgllgaaGreatDoor

namespace Go.Proofs.YtkdkdmjhhgllgaaGreatDoor
open Go.RowKit
theorem rep_own (w : World) (n : Nat) : OwnInts (w.alloc (.cells (zeros n).toArray 3)) w.heap.size (some ⟨w.heap.size, 0, none⟩) (List.replicate n 0) :=
  ⟨fun p hp => by cases hp; exact ⟨Nat.le_refl _, by simp⟩, fun _ => ⟨w.heap.size, 0, rfl, cells_rep (heap_alloc_new w _)⟩⟩

theorem same_nth {xs ys : List Int} (hl : ys.length = xs.length) (h : ∀ i, i < xs.length → nth ys i = nth xs i) : ys = xs := by
  apply List.ext_getElem hl
  intro i h1 h2
  have := h i h2
  simpa [nth, List.getElem?_eq_getElem h1, List.getElem?_eq_getElem h2] using this
theorem set_nth {xs ys : List Int} {j : Nat} {x : Int} (hj : j < ys.length) (h : ∀ i, i < j → nth ys i = nth xs i) (hx : nth xs j = x) : ∀ i, i < j + 1 → nth (ys.set j x) i = nth xs i := by
  intro i hi
  by_cases e : i = j
  · subst e; simp [nth, hj]; simpa [nth] using hx.symm
  · rw [nth, List.getElem?_set, if_neg (by omega)]; exact h i (by omega)

end Go.Proofs.YtkdkdmjhhgllgaaGreatDoor

namespace Go.Proofs.YtkdkdmjhhgllgaaGreatDoor
open Go.RowKit

set_option maxHeartbeats 400000 in
theorem homeIn_any (T : Tab) (a : Option Addr) (c : Nat) (key : Int) (w : World) (hv : validB T = true) (h0 : 0 ≤ key) (h1 : key ≤ 99) :
    Calls Tryz.prog 65 #[tabV T a c, .int .i64 key] w fun e w' => e = .returned (.int .i64 (homeI T key)) ∧ Below w.heap.size w w' := by
  obtain ⟨⟨l1, l2⟩, ⟨t1, t2⟩, ⟨p1, p2⟩, _⟩ := valid_facts hv
  have m := mul_bounds t1 t2 (k := key) (by omega) h1
  have m0 := mul_nonneg' t1 h0
  have ln : ((T.zs.length : Int) == 0) = false := beq_eq_false_iff_ne.2 (by omega)
  go_enter Tryz.func65, Tryz.ntmps65
  go_wp2
  go_ret
  exact ⟨rfl, (Below.refl _ _).alloc (Nat.le_refl _) _⟩

end Go.Proofs.YtkdkdmjhhgllgaaGreatDoor

namespace Go.Proofs.YtkdkdmjhhgllgaaGreatDoor
open Go.RowKit

set_option maxHeartbeats 400000 in
theorem l1Key_any (n : Int) (w : World) :
    Calls Tryz.prog 56 #[.int .i64 n] w fun e w' => e = .returned (.bool (inB n 0 99)) ∧ w = w' := by
  go_enter Tryz.func56, Tryz.ntmps56
  go_wp2_with (go_at_call 80; refine (l1In_any _ _ _ _).mono ?_; rintro e w' ⟨rfl, rfl⟩)
  go_ret
  exact ⟨rfl, rfl⟩

end Go.Proofs.YtkdkdmjhhgllgaaGreatDoor

namespace Go.Proofs.YtkdkdmjhhgllgaaGreatDoor
open Go.RowKit

set_option maxHeartbeats 400000 in
theorem l1Home_any (T : Tab) (a : Option Addr) (c : Nat) (key : Int) (w : World) (hv : validB T = true) (h0 : 0 ≤ key) (h1 : key ≤ 99) :
    Calls Tryz.prog 53 #[tabV T a c, .int .i64 key] w fun e w' => e = .returned (.int .i64 (homeI T key)) ∧ Below w.heap.size w w' := by
  obtain ⟨⟨l1, l2⟩, ⟨t1, t2⟩, ⟨p1, p2⟩, _⟩ := valid_facts hv
  have m := mul_bounds t1 t2 (k := key) (by omega) h1
  have m0 := mul_nonneg' t1 h0
  have ln : ((T.zs.length : Int) == 0) = false := beq_eq_false_iff_ne.2 (by omega)
  go_enter Tryz.func53, Tryz.ntmps53
  go_wp2
  go_ret
  exact ⟨rfl, (Below.refl _ _).alloc (Nat.le_refl _) _⟩

end Go.Proofs.YtkdkdmjhhgllgaaGreatDoor

namespace Go.Proofs.YtkdkdmjhhgllgaaGreatDoor
open Go.RowKit

set_option maxHeartbeats 400000 in
theorem wrap_any (a : Option Addr) (n c : Nat) (x : Int) (w : World) (h1 : 1 ≤ n) (h2 : n ≤ 16) (h3 : -1000000 ≤ x) (h4 : x ≤ 1000000) :
    Calls Tryz.prog 94 #[.slice a n c, .int .i64 x] w fun e w' => e = .returned (.int .i64 (x % n)) ∧ w = w' := by
  have ln : ((n : Int) == 0) = false := by simp; omega
  obtain ⟨b1, b2⟩ := tmod_bounds x (n := n) (by omega)
  go_enter Tryz.func94, Tryz.ntmps94
  go_wp2
  go_ret
  exact ⟨ret_int (by rw [wrap_mod]), rfl⟩

end Go.Proofs.YtkdkdmjhhgllgaaGreatDoor

namespace Go.Proofs.YtkdkdmjhhgllgaaGreatDoor
open Go.RowKit

/-- The home that a cell bears: of a key its home; of what is no key a number that nobody reads. -/
def homeT (T : Tab) (x : Int) : Int := (T.t * x + T.p).tmod T.zs.length
theorem homeT_key {T : Tab} {x : Int} (hv : validB T = true) (h : 0 ≤ x) : homeT T x = homeI T x := by
  obtain ⟨_, ⟨t1, _⟩, ⟨p1, _⟩, _⟩ := valid_facts hv
  exact Int.tmod_eq_emod_of_nonneg (by have := mul_nonneg' t1 h; omega)

set_option maxHeartbeats 400000 in
theorem homeIn_all (T : Tab) (a : Option Addr) (c : Nat) (x : Int) (w : World) (hv : validB T = true) (h0 : -2 ≤ x) (h1 : x ≤ 99) :
    Calls Tryz.prog 65 #[tabV T a c, .int .i64 x] w fun e w' => e = .returned (.int .i64 (homeT T x)) ∧ Below w.heap.size w w' := by
  by_cases hx : 0 ≤ x
  · refine (homeIn_any T a c x w hv hx h1).mono ?_
    rintro e w' ⟨rfl, hb⟩
    exact ⟨ret_int (homeT_key hv hx).symm, hb⟩
  · obtain ⟨⟨l1, l2⟩, ⟨t1, t2⟩, ⟨p1, p2⟩, _⟩ := valid_facts hv
    have m := mul_bounds t1 t2 (k := x) h0 h1
    have ln : ((T.zs.length : Int) == 0) = false := beq_eq_false_iff_ne.2 (by omega)
    have bb := tmod_bounds (T.t * x + T.p) (n := T.zs.length) (by omega)
    go_enter Tryz.func65, Tryz.ntmps65
    go_wp2
    go_ret
    exact ⟨rfl, (Below.refl _ _).alloc (Nat.le_refl _) _⟩

/-- The cells of a ring of n cells at block g hold what f says. -/
def RingSt (w : World) (g n : Nat) (f : Nat → Value) : Prop := ∀ j, j < n * 2 → w.cell? ⟨g, j, none⟩ = some (f j) ∧ w.frozen? ⟨g, j, none⟩ = false

/-- The ring of a table. -/
def RingAt (w : World) (g : Nat) (T : Tab) : Prop :=
  ∀ i, i < T.zs.length → w.cell? ⟨g, i * 2, none⟩ = some (.int .i64 (nth T.zs i)) ∧ w.cell? ⟨g, i * 2 + 1, none⟩ = some (.int .i64 (homeT T (nth T.zs i)))

theorem info73 : (Tryz.prog.info? 73).map (fun i => (i.zero, i.size, i.bytes)) = some (some (.agg #[.int .i64 0, .int .i64 0]), 2, 16) := by kernel_rfl

def zeros2 (n : Nat) : Array Value := madeCells #[.int .i64 0, .int .i64 0] (n * 2)

theorem mk_ring (n : Nat) (hn : n ≤ 1000) (w : World) : (Instr.makeSlice 70 (.int .i64 n) (.int .i64 n)).run Tryz.prog w = .ok (.slice (some ⟨w.heap.size, 0, none⟩) n n) (w.alloc (.cells (zeros2 n) 73)) := by
  obtain ⟨i0, hi, hz0, hz1, hz2⟩ := info_parts info73
  have h := run_make (P := Tryz.prog) w 70 73 i0 (.agg #[.int .i64 0, .int .i64 0]) Tryz.underlying70 hi hz0 .i64 .i64 n n (by omega) (by omega) (by rw [hz2]; omega) (by omega)
  simp only [Int.toNat_natCast] at h
  rw [h, hz1]
  rfl

theorem ring_start (w : World) (n : Nat) : ∃ f, RingSt (w.alloc (.cells (zeros2 n) 73)) w.heap.size n f := by
  refine ⟨fun j => ((zeros2 n)[j]?.getD undef), fun j hj => ⟨?_, World.frozen?_alloc_at _ _ _ _ rfl⟩⟩
  rw [World.cell?_alloc_at _ _ _ _ rfl]
  have : j < (zeros2 n).size := by rw [zeros2, size_madeCells]; exact hj
  simp [this]

theorem RingSt.set {w : World} {g n : Nat} {f : Nat → Value} (h : RingSt w g n f) (j : Nat) (hj : j < n * 2) (v : Value) : RingSt (w.setCell ⟨g, j, none⟩ v) g n (fun i => if i = j then v else f i) := by
  intro i hi
  refine ⟨?_, (World.frozen?_setCell _ _ _ _).trans (h i hi).2⟩
  by_cases e : i = j
  · subst e
    rw [World.cell?_setCell_same _ _ _ (h i hi).1]; simp
  · rw [World.cell?_setCell_other _ _ _ _ (by simp only [ne_eq, Addr.mk.injEq, true_and, and_true]; omega), (h i hi).1]
    simp [e]

theorem RingSt.below {w w' : World} {g n : Nat} {f : Nat → Value} (h : RingSt w g n f) (hb : Below w.heap.size w w') (hz : g < w.heap.size) : RingSt w' g n f :=
  fun j hj => ⟨(hb.cell (p := ⟨g, j, none⟩) hz).trans (h j hj).1, (hb.frozen (p := ⟨g, j, none⟩) hz).trans (h j hj).2⟩

set_option maxHeartbeats 1000000 in
theorem ringOf_any (T : Tab) (a : Option Addr) (c : Nat) (w : World) (h1 : IntsAt w a T.zs) (hv : validB T = true) :
    Calls Tryz.prog 59 #[tabV T a c] w fun e w' => ∃ g, e = .returned (.slice (some ⟨g, 0, none⟩) T.zs.length T.zs.length) ∧ w.heap.size ≤ g ∧ g < w'.heap.size ∧ RingAt w' g T ∧ Below w.heap.size w w' := by
  obtain ⟨⟨l1, l2⟩, _⟩ := valid_facts hv
  have S0 := ((St.start w).read h1).alloc #[.int .i64 T.t, .int .i64 T.p, .slice a T.zs.length c] 25
  have hmk := mk_ring T.zs.length (by omega)
  have S1 := S0.below ((Below.refl _ _).alloc (Nat.le_refl _) (.cells (zeros2 T.zs.length) 73))
  obtain ⟨f0, R0⟩ := ring_start (w.alloc (.cells #[.int .i64 T.t, .int .i64 T.p, .slice a T.zs.length c] 25)) T.zs.length
  rw [World.size_alloc] at R0
  go_enter Tryz.func59, Tryz.ntmps59
  go_wp2
  clear hmk
  go_loopw [4, 5, 13] (fun _ _ i wr => ∃ (k : Nat) (f : Nat → Value), k ≤ T.zs.length ∧ i = .int .i64 k ∧ RingSt wr (w.heap.size + 1) T.zs.length f ∧ w.heap.size + 1 < wr.heap.size ∧
      (∀ i, i < k → f (i * 2) = .int .i64 (nth T.zs i) ∧ f (i * 2 + 1) = .int .i64 (homeT T (nth T.zs i))) ∧ St w wr [It.box w.heap.size #[.int .i64 T.t, .int .i64 T.p, .slice a T.zs.length c] 25, It.read w.heap.size a T.zs])
      (fun _ _ i _ => T.zs.length - (intOf i).toNat)
  case atStart => exact ⟨0, f0, Nat.zero_le _, rfl, R0, by simp, fun _ h => (by omega), S1⟩
  case round =>
    obtain ⟨k, f, hk, rfl, hr, hz, hf, hst⟩ := hrel
    have R := Lib.hid hr
    have F := Lib.hid hf
    clear hr hf S0 S1 R0
    by_cases hlt : k < T.zs.length
    · obtain ⟨b, o, x, rfl, q, X⟩ := (hst.reads 1 rfl).at hlt
      obtain ⟨hx1, hx2⟩ := valid_slot hv hlt
      rw [X.out] at hx1 hx2
      obtain ⟨x0, x1, x2, x3, x4, x5, xz⟩ := facts3 (hst.cells 0 rfl)
      go_wp2_with fail
      refine (homeIn_all T _ c x _ hv hx1 hx2).mono ?_
      rintro e w2 ⟨rfl, hb⟩
      have R2 := Lib.hid (R.out.below hb hz)
      obtain ⟨r0, r1⟩ := R2.out (k * 2) (by omega)
      obtain ⟨r2, r3⟩ := R2.out (k * 2 + 1) (by omega)
      have hz2 := Nat.lt_of_lt_of_le hz hb.size
      have S2 := hst.below hb
      clear hst hb x0 x1 x2 x3 x4 x5 xz
      go_wp2
      go_roundw
      case rel =>
        refine ⟨k + 1, _, by omega, by go_num, (R2.out.set (k * 2) (by omega) _).set (k * 2 + 1) (by omega) _, by simpa [World.setCell] using hz2, ?_, (S2.setFar (p := ⟨w.heap.size + 1, k * 2, none⟩) (by simp [Far, It.box, It.read]) (by simp) _).setFar (p := ⟨w.heap.size + 1, k * 2 + 1, none⟩) (by simp [Far, It.box, It.read]) (by simp) _⟩
        intro i hi
        by_cases e : i = k
        · subst e
          simp [X.out]
        · obtain ⟨g1, g2⟩ := F.out i (by omega)
          simp only [show ¬ i * 2 = k * 2 + 1 by omega, show ¬ i * 2 = k * 2 by omega, show ¬ i * 2 + 1 = k * 2 + 1 by omega, show ¬ i * 2 + 1 = k * 2 by omega, if_false]
          exact ⟨g1, g2⟩
      case measure => simp [intOf]; omega
    · go_wp2
      go_ret
      have e : k = T.zs.length := by omega
      refine ⟨w.heap.size + 1, rfl, by omega, hz, fun i hi => ?_, hst.old⟩
      obtain ⟨g1, g2⟩ := F.out i (by omega)
      exact ⟨by rw [(R.out (i * 2) (by omega)).1, g1], by rw [(R.out (i * 2 + 1) (by omega)).1, g2]⟩

theorem RingAt.below {w w' : World} {g : Nat} {T : Tab} (h : RingAt w g T) (hb : Below w.heap.size w w') (hz : g < w.heap.size) : RingAt w' g T :=
  fun i hi => ⟨(hb.cell (p := ⟨g, i * 2, none⟩) hz).trans (h i hi).1, (hb.cell (p := ⟨g, i * 2 + 1, none⟩) hz).trans (h i hi).2⟩

end Go.Proofs.YtkdkdmjhhgllgaaGreatDoor

namespace Go.Proofs.YtkdkdmjhhgllgaaGreatDoor
open Go.RowKit

/-- Six cells, in whatever world has them. -/
def Six (b1 b2 : Nat) (x0 x1 x2 y0 y1 y2 : Value) (w : World) : Prop :=
  w.cell? ⟨b1, 0, none⟩ = some x0 ∧ w.cell? ⟨b1, 1, none⟩ = some x1 ∧ w.cell? ⟨b1, 2, none⟩ = some x2 ∧ w.cell? ⟨b2, 0, none⟩ = some y0 ∧ w.cell? ⟨b2, 1, none⟩ = some y1 ∧ w.cell? ⟨b2, 2, none⟩ = some y2

theorem St.six {w0 w : World} {l : List It} {b1 b2 : Nat} {x0 x1 x2 y0 y1 y2 : Value} {t1 t2 : TypeId} (S : St w0 w l) (i j : Nat) (hi : l[i]? = some (It.box b1 #[x0, x1, x2] t1)) (hj : l[j]? = some (It.box b2 #[y0, y1, y2] t2)) : Six b1 b2 x0 x1 x2 y0 y1 y2 w := by
  obtain ⟨a0, a1, a2, _⟩ := facts3 (S.cells i hi)
  obtain ⟨c0, c1, c2, _⟩ := facts3 (S.cells j hj)
  exact ⟨a0, a1, a2, c0, c1, c2⟩

theorem St.three {w0 w : World} {l : List It} {b : Nat} {x y z : Value} {t : TypeId} (S : St w0 w l) (i : Nat) (hi : l[i]? = some (It.box b #[x, y, z] t)) : w.cell? ⟨b, 0, none⟩ = some x ∧ w.cell? ⟨b, 1, none⟩ = some y ∧ w.cell? ⟨b, 2, none⟩ = some z := by
  obtain ⟨a0, a1, a2, _⟩ := facts3 (S.cells i hi)
  exact ⟨a0, a1, a2⟩

theorem keep_set3 {w : World} {b b2 : Nat} (hne : b2 ≠ b) {x y z : Value} {p q s : Option Value} (h : w.cell? ⟨b2, 0, none⟩ = p ∧ w.cell? ⟨b2, 1, none⟩ = q ∧ w.cell? ⟨b2, 2, none⟩ = s) :
    (((w.setCell ⟨b, 0, none⟩ x).setCell ⟨b, 1, none⟩ y).setCell ⟨b, 2, none⟩ z).cell? ⟨b2, 0, none⟩ = p ∧ (((w.setCell ⟨b, 0, none⟩ x).setCell ⟨b, 1, none⟩ y).setCell ⟨b, 2, none⟩ z).cell? ⟨b2, 1, none⟩ = q ∧
      (((w.setCell ⟨b, 0, none⟩ x).setCell ⟨b, 1, none⟩ y).setCell ⟨b, 2, none⟩ z).cell? ⟨b2, 2, none⟩ = s := by
  have e : (((w.setCell ⟨b, 0, none⟩ x).setCell ⟨b, 1, none⟩ y).setCell ⟨b, 2, none⟩ z).heap[b2]? = w.heap[b2]? :=
    (Below.heap_setCell _ _ _ _ hne).trans ((Below.heap_setCell _ _ _ _ hne).trans (Below.heap_setCell _ _ _ _ hne))
  exact ⟨(World.cell?_of_block (a := ⟨b2, 0, none⟩) e).trans h.1, (World.cell?_of_block (a := ⟨b2, 1, none⟩) e).trans h.2.1, (World.cell?_of_block (a := ⟨b2, 2, none⟩) e).trans h.2.2⟩

end Go.Proofs.YtkdkdmjhhgllgaaGreatDoor

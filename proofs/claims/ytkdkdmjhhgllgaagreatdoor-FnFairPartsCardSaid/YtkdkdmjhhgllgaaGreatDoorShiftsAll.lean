/-
  Fair tables: several texts as one.
-/
import Derived.Test.YtkdkdmjhhgllgaaGreatDoorLow
import Derived.Test.YtkdkdmjhhgllgaaGreatDoorAway
import Derived.Test.YtkdkdmjhhgllgaaGreatDoorMath
import Derived.Test.YtkdkdmjhhgllgaaGreatDoorShelf
import Derived.Test.YtkdkdmjhhgllgaaGreatDoorDrop
import Derived.Test.YtkdkdmjhhgllgaaGreatDoorWithout
import Derived.Test.YtkdkdmjhhgllgaaGreatDoorFindI
import Derived.Test.YtkdkdmjhhgllgaaGreatDoorLostI
import Derived.Test.YtkdkdmjhhgllgaaGreatDoorCopyRow
import Derived.Test.YtkdkdmjhhgllgaaGreatDoorCollectW
import Derived.Test.YtkdkdmjhhgllgaaGreatDoorFinds2All
section
namespace Go.Proofs.YtkdkdmjhhgllgaaGreatDoor
open Go.RowKit Go.Shelf
attribute [local go_sem] Oper.semAt_some

theorem rowOwn_block {w w' : World} {g : Nat} {zs : List Int} (h : OwnInts w g (some ⟨g, 0, none⟩) zs) (hb : w'.heap[g]? = w.heap[g]?) (hz : w.heap.size ≤ w'.heap.size) : OwnInts w' g (some ⟨g, 0, none⟩) zs := by
  refine ⟨fun p hp => ⟨(h.1 p hp).1, Nat.lt_of_lt_of_le (h.1 p hp).2 hz⟩, fun h0 => ?_⟩
  obtain ⟨b, off, e, hc, hf⟩ := h.2 h0
  cases e
  exact ⟨g, 0, rfl, fun j hj => (World.cell?_of_block (a := ⟨g, 0 + j, none⟩) hb).trans (hc j hj), fun j hj => (World.frozen?_of_block (a := ⟨g, 0 + j, none⟩) hb).trans (hf j hj)⟩
theorem rowOwn_at {w : World} {g : Nat} {zs : List Int} (h : OwnInts w g (some ⟨g, 0, none⟩) zs) {i : Nat} (hi : i < zs.length) : w.cell? ⟨g, i, none⟩ = some (.int .i64 (nth zs i)) ∧ w.frozen? ⟨g, i, none⟩ = false := by
  obtain ⟨b, off, e, hc, hf⟩ := h.2 (by omega)
  cases e
  have := hc i hi
  have h2 := hf i hi
  rw [Nat.zero_add] at this h2
  exact ⟨this, h2⟩
/-- The row that lies in a block. -/
def readInts (w : World) (g n : Nat) : List Int := (List.range n).map fun i => intOf ((w.cell? ⟨g, i, none⟩).getD undef)
theorem read_own {w : World} {g n : Nat} {zs : List Int} (h : OwnInts w g (some ⟨g, 0, none⟩) zs) (hn : zs.length = n) : readInts w g n = zs := by
  subst hn
  refine nth_ext (by simp [readInts]) fun i hi => ?_
  have hi : i < zs.length := by simpa [readInts] using hi
  have : (readInts w g zs.length)[i]? = some (intOf ((w.cell? ⟨g, i, none⟩).getD undef)) := by
    unfold readInts
    rw [List.getElem?_map, List.getElem?_range hi]; rfl
  rw [nth, this, (rowOwn_at h hi).1]
  rfl
theorem keep_rest {A B C : World} {g b : Nat} {v : Value} (h : ∀ k, k < B.heap.size → k ≠ g → C.heap[k]? = B.heap[k]?) (hne : b ≠ g) (hc : B.cell? ⟨b, 0, none⟩ = some v) : C.cell? ⟨b, 0, none⟩ = some v :=
  (World.cell?_of_block (a := ⟨b, 0, none⟩) (h b (World.block_lt_of_cell? B _ hc) hne)).trans hc

/-- Below B all lies as it lay, but the block g. -/
def KeepBut (B g : Nat) (A A' : World) : Prop := A.heap.size ≤ A'.heap.size ∧ ∀ k, k < B → k ≠ g → A'.heap[k]? = A.heap[k]?
theorem KeepBut.refl (B g : Nat) (A : World) : KeepBut B g A A := ⟨Nat.le_refl _, fun _ _ _ => rfl⟩
theorem KeepBut.below {B g : Nat} {A A' A'' : World} (h : KeepBut B g A A') (hb : Below B A' A'') : KeepBut B g A A'' := ⟨Nat.le_trans h.1 hb.size, fun k h1 h2 => (hb.block k h1).trans (h.2 k h1 h2)⟩
theorem KeepBut.set {B g : Nat} {A A' : World} (h : KeepBut B g A A') (o : Nat) (v : Value) : KeepBut B g A (A'.setCell ⟨g, o, none⟩ v) := ⟨by simpa [World.setCell] using h.1, fun k h1 h2 => (Below.heap_setCell A' ⟨g, o, none⟩ v k h2).trans (h.2 k h1 h2)⟩
theorem KeepBut.cell {B g : Nat} {A A' : World} (h : KeepBut B g A A') {b o : Nat} {v : Value} (hb : b < B) (hne : b ≠ g) (hc : A.cell? ⟨b, o, none⟩ = some v) : A'.cell? ⟨b, o, none⟩ = some v :=
  (World.cell?_of_block (a := ⟨b, o, none⟩) (h.2 b hb hne)).trans hc

theorem fwd_next {n h d : Nat} (hh : h < n) (h1 : 1 ≤ d) (h2 : d ≤ n) : ((fwd n h (d - 1) : Nat) + 1 : Int).tmod n = (fwd n h d : Nat) := by
  rw [Int.tmod_eq_emod_of_nonneg (by omega)]
  have : ((fwd n h (d - 1) : Nat) + 1 : Int) % n = ((fwd n h (d - 1) + 1) % n : Nat) := by simp
  rw [this]
  have h3 := fwd_lt hh (m := d - 1) (by omega)
  rcases fwd_cases n h (d - 1) with ⟨c1, e1⟩ | ⟨c1, e1⟩ <;> rcases fwd_cases n h d with ⟨c2, e2⟩ | ⟨c2, e2⟩
  · rw [Nat.mod_eq_of_lt (by omega)]; omega
  · rw [show fwd n h (d - 1) + 1 = n by omega, Nat.mod_self]; omega
  · omega
  · rw [Nat.mod_eq_of_lt (by omega)]; omega
theorem shift_len (T : Tab) : ∀ (f : Nat) (zs : List Int) (hole d : Nat), Hole T zs hole d → (shiftF T f zs hole d).1.length ≤ sumN (awZ T zs) T.zs.length := by
  intro f
  induction f with
  | zero => intro zs hole d _; simp [shiftF]
  | succ f ih =>
    intro zs hole d hH
    simp only [shiftF]
    split
    · simp
    · rename_i hx
      split
      · exact ih _ _ _ (hH.pass hx)
      · rename_i ha
        have h1 := ih _ _ _ (hH.move hx)
        have h2 := meas_move hH hx ha
        have hd := hH.d1
        have hd2 := (hH.full hx).1
        have l2 : zs.length ≤ 16 := (valid_facts hH.val).1.2
        rw [hH.len] at l2
        unfold meas at h2
        unfold moved at h1 h2
        simp only [List.length_cons]
        omega
theorem sum_le {f : Nat → Nat} {n b : Nat} (h : ∀ i, i < n → f i ≤ b) : sumN f n ≤ b * n := by
  induction n with
  | zero => simp [sumN]
  | succ n ih =>
    simp only [sumN]
    have := ih fun i hi => h i (by omega)
    have := h n (by omega)
    rw [Nat.mul_add]; omega
theorem shiftR_len {T : Tab} {zs : List Int} {hole d : Nat} (h : Hole T zs hole d) : (shiftR T zs hole d).1.length ≤ 256 := by
  have h1 := shift_len T (meas T zs d + 1) zs hole d h
  have l2 : zs.length ≤ 16 := (valid_facts h.val).1.2
  rw [h.len] at l2
  have h2 := sum_le (f := awZ T zs) (n := T.zs.length) (b := 16) fun i hi => by
    unfold awZ
    split
    · have := dst_lt (h.home (nth zs i)) hi
      unfold awN; omega
    · omega
  unfold shiftR
  omega

end Go.Proofs.YtkdkdmjhhgllgaaGreatDoor
end

section
namespace Go.Proofs.YtkdkdmjhhgllgaaGreatDoor
open Go.RowKit

theorem shiftT_len (T : Tab) (key : Int) : (shiftT T key).zs.length ≤ 16 := by
  unfold shiftT
  split
  · rename_i h
    obtain ⟨k, D⟩ := shift_says h
    obtain rfl : (findOf T key).toNat = k := by rw [D.find]; simp
    have h1 := D.left.len
    have h2 := (valid_facts D.val).1.2
    show (shiftZ T T.zs _).2.length ≤ 16
    omega
  · simp
theorem shiftL_len (T : Tab) (key : Int) : (shiftL T key).length ≤ 1000 := by
  unfold shiftL
  split
  · rename_i h
    obtain ⟨k, D⟩ := shift_says h
    obtain rfl : (findOf T key).toNat = k := by rw [D.find]; simp
    have := shiftR_len D.hole
    show (shiftR T _ _ 1).1.length ≤ 1000
    omega
  · simp
theorem shiftT_no {T : Tab} {key : Int} (h : shiftOk T key = false) : shiftT T key = ⟨0, 0, []⟩ ∧ shiftL T key = [] := by simp [shiftT, shiftL, h]
theorem shiftT_yes {T : Tab} {key : Int} {k : Nat} (h : shiftOk T key = true) (hk : findOf T key = k) : shiftT T key = tab T (shiftZ T T.zs k).2 ∧ shiftL T key = (shiftZ T T.zs k).1 := by
  unfold shiftT shiftL
  rw [if_pos h, if_pos h, hk]
  exact ⟨rfl, rfl⟩

set_option maxHeartbeats 1000000 in
theorem isPlain_any (T : Tab) (a : Option Addr) (c : Nat) (w : World) (hx : T.zs.length ≤ 9223372036854775807) (h1 : IntsAt w a T.zs) :
    Calls Tryz.prog 35 #[tabV T a c] w fun e w' => e = .returned (.bool (plainB T)) ∧ Below w.heap.size w w' := by
  have S0 := tabBox c 25 h1
  have HP : Hid (plainB T = (soundB T && !decide (-2 ∈ T.zs))) := Lib.hid rfl
  cases hs : soundB T
  · go_enter Tryz.func35, Tryz.ntmps35
    go_wp2_with fail
    refine (IsSound_any T a c _ hx (by exact S0.reads 1 rfl)).mono ?_
    rw [hs]
    rintro e w1 ⟨rfl, hb⟩
    have S1 := S0.below hb
    go_wp2
    go_ret
    exact ⟨by rw [HP.out, hs]; rfl, S1.old⟩
  · go_enter Tryz.func35, Tryz.ntmps35
    go_wp2_with fail
    refine (IsSound_any T a c _ hx (by exact S0.reads 1 rfl)).mono ?_
    rw [hs]
    rintro e w1 ⟨rfl, hb⟩
    have S1 := S0.below hb
    clear S0 hb
    obtain ⟨x0, x1, x2, x3, x4, x5, xz⟩ := facts3 (S1.cells 0 rfl)
    go_wp2_with fail
    refine (contains_any T.zs a c (-2) _ hx (by exact S1.reads 1 rfl)).mono ?_
    rintro e w2 ⟨rfl, rfl⟩
    cases hd : decide (-2 ∈ T.zs)
    · go_wp2
      go_ret
      exact ⟨by rw [HP.out, hs, hd]; rfl, S1.old⟩
    · go_wp2
      go_ret
      exact ⟨by rw [HP.out, hs, hd]; rfl, S1.old⟩

set_option maxHeartbeats 1000000 in
theorem l5Plain_any (T : Tab) (a : Option Addr) (c : Nat) (w : World) (hx : T.zs.length ≤ 9223372036854775807) (h1 : IntsAt w a T.zs) :
    Calls Tryz.prog 52 #[tabV T a c] w fun e w' => e = .returned (.bool (plainB T)) ∧ Below w.heap.size w w' := by
  have S0 := tabBox c 25 h1
  have HP : Hid (plainB T = (soundB T && decide (fnd T.zs (-2) < 0))) := Lib.hid (by
    unfold plainB
    congr 1
    rw [Bool.eq_iff_iff]
    simp only [Bool.not_eq_true', decide_eq_false_iff_not, decide_eq_true_eq]
    rcases fnd_cases T.zs (-2) with ⟨e, h⟩ | ⟨k, hk, e, h, _⟩
    · rw [e]
      exact ⟨fun _ => by omega, fun _ hm => by obtain ⟨i, hi, e2⟩ := mem_nth hm; exact h i hi e2⟩
    · rw [e]
      exact ⟨fun hn => absurd (by rw [← h]; exact nth_mem hk) hn, fun h2 => by omega⟩)
  cases hs : soundB T
  · go_enter Tryz.func52, Tryz.ntmps52
    go_wp2_with fail
    refine (specIsSound_any T a c _ hx (by exact S0.reads 1 rfl)).mono ?_
    rw [hs]
    rintro e w1 ⟨rfl, hb⟩
    have S1 := S0.below hb
    go_wp2
    go_ret
    exact ⟨by rw [HP.out, hs]; rfl, S1.old⟩
  · go_enter Tryz.func52, Tryz.ntmps52
    go_wp2_with fail
    refine (specIsSound_any T a c _ hx (by exact S0.reads 1 rfl)).mono ?_
    rw [hs]
    rintro e w1 ⟨rfl, hb⟩
    have S1 := S0.below hb
    clear S0 hb
    obtain ⟨x0, x1, x2, x3, x4, x5, xz⟩ := facts3 (S1.cells 0 rfl)
    go_wp2_with fail
    refine (l1Find_any a c T.zs (-2) _ hx (by exact S1.reads 1 rfl)).mono ?_
    rintro e w2 ⟨rfl, rfl⟩
    generalize fnd T.zs (-2) = m at HP ⊢
    go_wp2
    go_ret
    exact ⟨by rw [HP.out, hs]; rfl, S1.old⟩

/-- What shiftOut answers. -/
def ShiftRes (T : Tab) (key : Int) (w : World) (e : Ending) (w' : World) : Prop :=
  ∃ a c a2 c2, e = .returned (.tuple #[tabV (shiftT T key) a c, .slice a2 (shiftL T key).length c2, .bool (shiftOk T key)]) ∧ OwnInts w' w.heap.size a (shiftT T key).zs ∧ OwnInts w' w.heap.size a2 (shiftL T key) ∧ Below w.heap.size w w'
theorem shiftRes_no {T : Tab} {key : Int} {w w' : World} (h : shiftOk T key = false) (hb : Below w.heap.size w w') : ShiftRes T key w (.returned (.tuple #[tbl 0 0 none 0 0, .slice none 0 0, .bool false])) w' := by
  obtain ⟨e1, e2⟩ := shiftT_no h
  unfold ShiftRes
  rw [h, e1, e2]
  exact ⟨none, 0, none, 0, rfl, OwnInts.nil _ _, OwnInts.nil _ _, hb⟩

end Go.Proofs.YtkdkdmjhhgllgaaGreatDoor
end

section
namespace Go.Proofs.YtkdkdmjhhgllgaaGreatDoor
open Go.RowKit

theorem dst_int {n h s : Nat} (hh : h < n) (hs : s < n) : ((s : Int) - h) % (n : Int) = (dst n h s : Nat) := by
  rcases dst_cases n h s with ⟨c, e⟩ | ⟨c, e⟩
  · rw [Int.emod_eq_of_lt (by omega) (by omega)]; omega
  · rw [← Int.add_emod_right, Int.emod_eq_of_lt (by omega) (by omega)]; omega
theorem next_int {n k : Nat} (hk : k < n) : ((k : Int) + 1).tmod (n : Int) = (fwd n k 1 : Nat) := by
  rw [Int.tmod_eq_emod_of_nonneg (by omega)]
  rcases fwd_cases n k 1 with ⟨c, e⟩ | ⟨c, e⟩
  · rw [Int.emod_eq_of_lt (by omega) (by omega)]; omega
  · rw [show ((k : Int) + 1) = n by omega, Int.emod_self]; omega
theorem next_int' {n k : Nat} (hk : k < n) : ((k : Int) + 1) % (n : Int) = (fwd n k 1 : Nat) := by
  rw [← next_int hk, Int.tmod_eq_emod_of_nonneg (by omega)]
/-- How far a slot lies behind the hole; the hole itself lies all around behind it. -/
def behN (n h k : Nat) : Nat := if k = h then n else dst n h k
theorem behN_fwd {n h d : Nat} (hh : h < n) (h1 : 1 ≤ d) (h2 : d ≤ n) : behN n h (fwd n h d) = d := by
  unfold behN
  split
  · rename_i e
    rcases fwd_cases n h d with ⟨c, e2⟩ | ⟨c, e2⟩ <;> omega
  · rename_i e
    by_cases hd : d = n
    · subst hd
      rcases fwd_cases d h d with ⟨c, e2⟩ | ⟨c, e2⟩ <;> omega
    · exact dst_fwd hh (by omega)
theorem next_fwd {n h d : Nat} (hh : h < n) (hd : d < n) : fwd n (fwd n h d) 1 = fwd n h (d + 1) := by
  rcases fwd_cases n h d with ⟨c1, e1⟩ | ⟨c1, e1⟩ <;> rcases fwd_cases n h (d + 1) with ⟨c2, e2⟩ | ⟨c2, e2⟩ <;> rcases fwd_cases n (fwd n h d) 1 with ⟨c3, e3⟩ | ⟨c3, e3⟩ <;> omega

/-- What l5Drop answers: the slots behind the machine, and the keys that are shifted. -/
def DropRes (T : Tab) (k : Nat) (w : World) (e : Ending) (w' : World) : Prop :=
  ∃ a1 c1 a2 c2, e = .returned (.tuple #[.agg #[.int .i64 T.t, .int .i64 T.p, .slice a1 T.zs.length c1], .slice a2 (shiftZ T T.zs k).1.length c2]) ∧ OwnInts w' w.heap.size a1 (shiftZ T T.zs k).2 ∧ OwnInts w' w.heap.size a2 (shiftZ T T.zs k).1 ∧ Below w.heap.size w w'

end Go.Proofs.YtkdkdmjhhgllgaaGreatDoor
end

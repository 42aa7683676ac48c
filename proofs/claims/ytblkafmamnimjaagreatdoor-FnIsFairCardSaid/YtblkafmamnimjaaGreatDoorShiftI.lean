/-
  DropShift and MovesBy, of the program and of the model.
-/
import Derived.Test.YtblkafmamnimjaaGreatDoorShelf
import Derived.Test.YtblkafmamnimjaaGreatDoorDrop
import Derived.Test.YtblkafmamnimjaaGreatDoorWithout
import Derived.Test.YtblkafmamnimjaaGreatDoorFindI
import Derived.Test.YtblkafmamnimjaaGreatDoorLostI
import Derived.Test.YtblkafmamnimjaaGreatDoorCopyRow
import Derived.Test.YtblkafmamnimjaaGreatDoorShiftIt
import Derived.Test.YtblkafmamnimjaaGreatDoorCollectW
namespace Go.Proofs.YtblkafmamnimjaaGreatDoor
open Go.RowKit

theorem shiftT_len (T : Tab) (key : Int) : (shiftT T key).zs.length ≤ 16 := by
  unfold shiftT
  split
  · rename_i h
    obtain ⟨k, D⟩ := shift_says h
    obtain rfl : (findOf T key).toNat = k := by rw [D.find]; simp
    have h1 := D.left.len
    have h2 := (valid_facts D.val).1.2
    show (shiftZ T T.zs _).2.length ≤ 16
    omega
  · simp
theorem shiftL_len (T : Tab) (key : Int) : (shiftL T key).length ≤ 1000 := by
  unfold shiftL
  split
  · rename_i h
    obtain ⟨k, D⟩ := shift_says h
    obtain rfl : (findOf T key).toNat = k := by rw [D.find]; simp
    have := shiftR_len D.hole
    show (shiftR T _ _ 1).1.length ≤ 1000
    omega
  · simp
theorem shiftT_no {T : Tab} {key : Int} (h : shiftOk T key = false) : shiftT T key = ⟨0, 0, []⟩ ∧ shiftL T key = [] := by simp [shiftT, shiftL, h]
theorem shiftT_yes {T : Tab} {key : Int} {k : Nat} (h : shiftOk T key = true) (hk : findOf T key = k) : shiftT T key = tab T (shiftZ T T.zs k).2 ∧ shiftL T key = (shiftZ T T.zs k).1 := by
  unfold shiftT shiftL
  rw [if_pos h, if_pos h, hk]
  exact ⟨rfl, rfl⟩

set_option maxHeartbeats 1000000 in
theorem isPlain_any (T : Tab) (a : Option Addr) (c : Nat) (w : World) (hx : T.zs.length ≤ 9223372036854775807) (h1 : IntsAt w a T.zs) :
    Calls Tryz.prog 32 #[tabV T a c] w fun e w' => e = .returned (.bool (plainB T)) ∧ Below w.heap.size w w' := by
  have S0 := tabBox c 25 h1
  have HP : Hid (plainB T = (soundB T && !decide (-2 ∈ T.zs))) := Lib.hid rfl
  cases hs : soundB T
  · go_enter Tryz.func32, Tryz.ntmps32
    go_wp2_with fail
    refine (IsSound_any T a c _ hx (by exact S0.reads 1 rfl)).mono ?_
    rw [hs]
    rintro e w1 ⟨rfl, hb⟩
    have S1 := S0.below hb
    go_wp2
    go_ret
    exact ⟨by rw [HP.out, hs]; rfl, S1.old⟩
  · go_enter Tryz.func32, Tryz.ntmps32
    go_wp2_with fail
    refine (IsSound_any T a c _ hx (by exact S0.reads 1 rfl)).mono ?_
    rw [hs]
    rintro e w1 ⟨rfl, hb⟩
    have S1 := S0.below hb
    clear S0 hb
    obtain ⟨x0, x1, x2, x3, x4, x5, xz⟩ := facts3 (S1.cells 0 rfl)
    go_wp2_with fail
    refine (contains_any T.zs a c (-2) _ hx (by exact S1.reads 1 rfl)).mono ?_
    rintro e w2 ⟨rfl, rfl⟩
    cases hd : decide (-2 ∈ T.zs)
    · go_wp2
      go_ret
      exact ⟨by rw [HP.out, hs, hd]; rfl, S1.old⟩
    · go_wp2
      go_ret
      exact ⟨by rw [HP.out, hs, hd]; rfl, S1.old⟩

set_option maxHeartbeats 1000000 in
theorem l5Plain_any (T : Tab) (a : Option Addr) (c : Nat) (w : World) (hx : T.zs.length ≤ 9223372036854775807) (h1 : IntsAt w a T.zs) :
    Calls Tryz.prog 42 #[tabV T a c] w fun e w' => e = .returned (.bool (plainB T)) ∧ Below w.heap.size w w' := by
  have S0 := tabBox c 25 h1
  have HP : Hid (plainB T = (soundB T && decide (fnd T.zs (-2) < 0))) := Lib.hid (by
    unfold plainB
    congr 1
    rw [Bool.eq_iff_iff]
    simp only [Bool.not_eq_true', decide_eq_false_iff_not, decide_eq_true_eq]
    rcases fnd_cases T.zs (-2) with ⟨e, h⟩ | ⟨k, hk, e, h, _⟩
    · rw [e]
      exact ⟨fun _ => by omega, fun _ hm => by obtain ⟨i, hi, e2⟩ := mem_nth hm; exact h i hi e2⟩
    · rw [e]
      exact ⟨fun hn => absurd (by rw [← h]; exact nth_mem hk) hn, fun h2 => by omega⟩)
  cases hs : soundB T
  · go_enter Tryz.func42, Tryz.ntmps42
    go_wp2_with fail
    refine (specIsSound_any T a c _ hx (by exact S0.reads 1 rfl)).mono ?_
    rw [hs]
    rintro e w1 ⟨rfl, hb⟩
    have S1 := S0.below hb
    go_wp2
    go_ret
    exact ⟨by rw [HP.out, hs]; rfl, S1.old⟩
  · go_enter Tryz.func42, Tryz.ntmps42
    go_wp2_with fail
    refine (specIsSound_any T a c _ hx (by exact S0.reads 1 rfl)).mono ?_
    rw [hs]
    rintro e w1 ⟨rfl, hb⟩
    have S1 := S0.below hb
    clear S0 hb
    obtain ⟨x0, x1, x2, x3, x4, x5, xz⟩ := facts3 (S1.cells 0 rfl)
    go_wp2_with fail
    refine (l1Find_any a c T.zs (-2) _ hx (by exact S1.reads 1 rfl)).mono ?_
    rintro e w2 ⟨rfl, rfl⟩
    generalize fnd T.zs (-2) = m at HP ⊢
    go_wp2
    go_ret
    exact ⟨by rw [HP.out, hs]; rfl, S1.old⟩

/-- What shiftOut answers. -/
def ShiftRes (T : Tab) (key : Int) (w : World) (e : Ending) (w' : World) : Prop :=
  ∃ a c a2 c2, e = .returned (.tuple #[tabV (shiftT T key) a c, .slice a2 (shiftL T key).length c2, .bool (shiftOk T key)]) ∧ OwnInts w' w.heap.size a (shiftT T key).zs ∧ OwnInts w' w.heap.size a2 (shiftL T key) ∧ Below w.heap.size w w'
theorem shiftRes_no {T : Tab} {key : Int} {w w' : World} (h : shiftOk T key = false) (hb : Below w.heap.size w w') : ShiftRes T key w (.returned (.tuple #[tbl 0 0 none 0 0, .slice none 0 0, .bool false])) w' := by
  obtain ⟨e1, e2⟩ := shiftT_no h
  unfold ShiftRes
  rw [h, e1, e2]
  exact ⟨none, 0, none, 0, rfl, OwnInts.nil _ _, OwnInts.nil _ _, hb⟩

end Go.Proofs.YtblkafmamnimjaaGreatDoor

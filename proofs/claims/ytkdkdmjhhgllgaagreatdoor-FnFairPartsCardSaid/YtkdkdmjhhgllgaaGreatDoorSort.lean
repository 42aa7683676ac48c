/-
  l1Sort: keys in order, each once.
-/
import Derived.Test.YtkdkdmjhhgllgaaGreatDoorDraw2
import Derived.Test.YtkdkdmjhhgllgaaGreatDoorMath
namespace Go.Proofs.YtkdkdmjhhgllgaaGreatDoor
open Go.RowKit

set_option maxHeartbeats 2000000 in
set_option maxRecDepth 100000 in
theorem l1Sort_any (a : Option Addr) (c : Nat) (zs : List Int) (w : World) (hx : zs.length ≤ 9223372036854775807) (h1 : IntsAt w a zs) :
    Calls Tryz.prog 116 #[.slice a zs.length c] w fun e w' => ∃ (a' : Option Addr) (c' : Nat), e = .returned (.slice a' (sortU zs).length c') ∧ OwnInts w' w.heap.size a' (sortU zs) ∧ Below w.heap.size w w' := by
  obtain ⟨i0, hi, hz0, hz1, hz2⟩ := info_parts Tryz.info3
  have HI := Lib.hid hi; have HZ0 := Lib.hid hz0; have HZ1 := Lib.hid hz1; have HZ2 := Lib.hid hz2
  clear hi hz0 hz1 hz2
  have S0 := ((St.start w).read h1).below ((Below.refl _ w).alloc (Nat.le_refl _) (.cells #[] 3)) |>.add (It.row w.heap.size (w.heap.size + 1) (.slice (some ⟨w.heap.size, 0, none⟩) 0 0) []) (by simp [It.row]) ⟨row_start w, fun k e => by cases e; simp⟩
  go_enter Tryz.func116, Tryz.ntmps116
  go_wp2_with fail
  go_loopw [3, 4, 6] (fun x _ z wr => ∃ (j : Nat) (v : Value) (xs : List Int) (hi' : Nat), j ≤ 100 ∧ z = .int .i64 j ∧ x = v ∧ xs = sortTo zs j ∧ w.heap.size < wr.heap.size ∧
      St w wr [It.row w.heap.size hi' v xs, It.read w.heap.size a zs]) (fun _ _ z _ => 100 - (intOf z).toNat)
  case atStart => exact ⟨0, _, [], _, Nat.zero_le _, rfl, rfl, rfl, S0.sz 0 rfl, S0⟩
  case round =>
    obtain ⟨j, v, xs, hi', hj, rfl, rfl, hxs, hz, Sr⟩ := hrel
    have X := Lib.hid hxs
    have hxl : xs.length ≤ 100 := by rw [hxs]; exact Nat.le_trans (sortTo_len _ _) hj
    clear hxs S0
    by_cases hlt : j < 100
    · by_cases hf : 0 ≤ fnd zs j
      · have hown := Sr.rows 0 rfl
        have F5 := fun v => (show Far (It.row w.heap.size hi' v xs) [It.read w.heap.size a zs] from ⟨.inl (Nat.le_refl _), trivial⟩)
        go_wp2_with (first | (go_at_call 81; refine (l1Find_any a c zs j _ hx (by exact Sr.reads 1 rfl)).mono ?_; rintro e w' ⟨rfl, rfl⟩) | (at_builtin; refine wpList_append_own _ rfl _ _ 23 rfl w.heap.size 3 i0 (.int .i64 0) 1 8 Tryz.underlying23 HI.out HZ0.out HZ1.out HZ2.out rfl (by decide) _ _ _ rfl (hown.alloc _) ⟨wr.heap.size, 0, none⟩ 1 1 [.int .i64 j] rfl rfl (cell_one_new _ _ _) (by simp [Value.oneCell']) (by unfold maxLen; omega) (by omega) (by simp; omega) ?_))
        intro v' w5 hown5 hgrow5 _
        obtain ⟨g', cap', rfl⟩ := ownsRow_more hown5
        have S5 := Sr.append (F5 _) (Nat.le_refl _) _ hown5 hgrow5
        have z5 : w.heap.size < w5.heap.size := by have := hgrow5.size; simp at this; omega
        clear hown5 hgrow5 hown Sr
        go_wp2
        go_roundw
        case rel => exact ⟨j + 1, _, xs ++ [(j : Int)], w5.heap.size, by omega, by go_num, rfl, by rw [X.out, sortTo_yes hf], z5, S5⟩
        case measure => simp [intOf]; omega
      · go_wp2_with (first | (go_at_call 81; refine (l1Find_any a c zs j _ hx (by exact Sr.reads 1 rfl)).mono ?_; rintro e w' ⟨rfl, rfl⟩))
        go_roundw
        case rel => exact ⟨j + 1, _, xs, hi', by omega, by go_num, rfl, by rw [X.out, sortTo_no (by omega)], hz, Sr⟩
        case measure => simp [intOf]; omega
    · obtain ⟨a', c', rfl⟩ := ownsRow_slice (Sr.rows 0 rfl)
      have O2 := Lib.hid (ownsRow_ints (Sr.rows 0 rfl))
      go_wp2
      go_ret
      have e : j = 100 := by omega
      have hx := X.out
      rw [e] at hx
      subst hx
      exact ⟨a', c', rfl, O2.out, Sr.old⟩

end Go.Proofs.YtkdkdmjhhgllgaaGreatDoor

/-
  Ways around: the program's WayOf.
-/
import Derived.Test.YtddomanabcmnpaaPull
import Derived.Test.YtddomanabcmnpaaWayS
namespace Go.Proofs.Ytddomanabcmnpaa
open Go.RowKit

set_option maxHeartbeats 2000000 in
set_option maxRecDepth 100000 in
theorem WayOf_yes (n k s h : Nat) (w : World) (n1 : 1 ≤ n) (n2 : n ≤ 16) (hk : k ≤ 2) (hs : s ≤ 16) (hh : h < n) :
    Calls Try.prog 25 #[.int .i64 n, .int .i64 k, .int .i64 s, .int .i64 h] w fun e w' => ∃ (a' : Option Addr) (c' : Nat), e = .returned (.tuple #[.slice a' (wayL n k s h).length c', .bool true]) ∧ OwnInts w' w.heap.size a' (wayL n k s h) ∧ Below w.heap.size w w' := by
  obtain ⟨i0, hi, hz0, hz1, hz2⟩ := info_parts Try.info3
  have HI := Lib.hid hi; have HZ0 := Lib.hid hz0; have HZ1 := Lib.hid hz1; have HZ2 := Lib.hid hz2
  clear hi hz0 hz1 hz2
  have hw : walkC n k s h 0 = #[wayV k s, .int .i64 n, .int .i64 h, .int .i64 0] := by unfold walkC; rw [atW_zero hh]; rfl
  have S0 := (St.start w).alloc (walkC n k s h 0) 79
  have S1 := S0.add (It.row (w.heap.size + 1) (w.heap.size + 1) (.slice none 0 0) []) (by simp [It.row]) ⟨World.ownsRow_nil _ _ _ _, fun k e => by cases e⟩
  go_enter Try.func25, Try.ntmps25
  go_wp2_with (first | (go_at_call 49; refine (walkerOn_yes n k s h _ n1 n2 hk hs hh).mono ?_; rw [← hw]; rintro e w' ⟨rfl, rfl⟩))
  have HW := Lib.hid hw
  clear hw S0
  go_loopw [12, 24] (fun x z wr => ∃ (j : Nat) (v : Value) (xs : List Int) (hi' : Nat), j ≤ n ∧ z = .int .i64 j ∧ x = v ∧ xs = wayTo n k s h j ∧ w.heap.size < wr.heap.size ∧
      St w wr [It.row (w.heap.size + 1) hi' v xs, It.box w.heap.size (walkC n k s h j) 79]) (fun _ z _ => n - (intOf z).toNat)
  case atStart => exact ⟨0, _, [], _, Nat.zero_le _, rfl, rfl, rfl, by simp, by rw [← HW.out]; exact S1⟩
  case round =>
    obtain ⟨j, v, xs, hi', hj, rfl, rfl, hxs, hz, Sr⟩ := hrel
    have X := Lib.hid hxs
    have hxl : xs.length ≤ 16 := by rw [hxs, wayTo_len]; omega
    clear hxs S1
    by_cases hlt : j < n
    · go_wp2_with fail
      refine (pull_any w.heap.size n k s h j wr n1 n2 hk hs (by omega) (by exact Sr.cells 1 rfl)).mono ?_
      rintro e w1 ⟨rfl, hg, hc⟩
      have z1 := hg.size
      have S2 := Sr.boxBy 1 rfl hg hc (by simp [Far, It.box, It.row]) (Nat.le_refl _)
      clear Sr hg hc
      have hown := S2.rows 0 rfl
      have F5 := fun v => (show Far (It.row (w.heap.size + 1) hi' v xs) [It.box w.heap.size (walkC n k s h (j + 1)) 79] from ⟨.inl (Nat.le_refl _), trivial⟩)
      have YY := Lib.hid (wayTo_succ n k s h j)
      generalize atW n k s h j = Y at YY ⊢
      go_wp2_with (first | (at_builtin; refine wpList_append_own _ rfl _ _ 33 rfl (w.heap.size + 1) 3 i0 (.int .i64 0) 1 8 Try.underlying33 HI.out HZ0.out HZ1.out HZ2.out rfl (by decide) _ _ _ rfl (hown.alloc _) ⟨w1.heap.size, 0, none⟩ 1 1 [.int .i64 Y] rfl rfl (cell_one_new _ _ _) (by simp [Value.oneCell']) (by unfold maxLen; omega) (by omega) (by simp; omega) ?_))
      intro v' w5 hown5 hgrow5 _
      obtain ⟨g', cap', rfl⟩ := ownsRow_more hown5
      have S5 := S2.append (F5 _) (by omega) _ hown5 hgrow5
      have z5 : w.heap.size < w5.heap.size := by have := hgrow5.size; simp at this; omega
      clear hown5 hgrow5 hown S2
      go_wp2
      go_roundw
      case rel => exact ⟨j + 1, _, xs ++ [(Y : Int)], w5.heap.size, by omega, by go_num, rfl, by rw [X.out, YY.out], z5, S5⟩
      case measure => simp [intOf]; omega
    · obtain ⟨a', c', rfl⟩ := ownsRow_slice (Sr.rows 0 rfl)
      have O2 := Lib.hid (ownsRow_ints (Sr.rows 0 rfl))
      go_wp2
      go_ret2
      have e : j = n := by omega
      have hx := X.out
      rw [e, wayTo_all] at hx
      subst hx
      exact ⟨a', c', rfl, O2.out.mono (by omega), Sr.old⟩

theorem WayOf_any (n k s h : Int) (w : World) :
    Calls Try.prog 25 #[.int .i64 n, .int .i64 k, .int .i64 s, .int .i64 h] w fun e w' => ∃ (a' : Option Addr) (c' : Nat), e = .returned (.tuple #[.slice a' (wayI n k s h).length c', .bool (asksW n k s h)]) ∧ OwnInts w' w.heap.size a' (wayI n k s h) ∧ Below w.heap.size w w' := by
  cases h1 : asksW n k s h
  · have R := Lib.hid (wayI_no h1)
    go_enter Try.func25, Try.ntmps25
    go_wp2_with (first | (go_at_call 49; refine (walkerOn_no n k s h _ h1).mono ?_; rintro e w' ⟨rfl, rfl⟩))
    go_ret2
    exact ⟨none, 0, by rw [R.out]; rfl, by rw [R.out]; exact OwnInts.nil _ _, Below.refl _ _⟩
  · obtain ⟨N, K, S, H, rfl, rfl, rfl, rfl, n1, n2, hk, hs, hh⟩ := asksW_nat h1
    rw [wayI_yes h1]
    exact WayOf_yes N K S H w n1 n2 hk hs hh

end Go.Proofs.Ytddomanabcmnpaa

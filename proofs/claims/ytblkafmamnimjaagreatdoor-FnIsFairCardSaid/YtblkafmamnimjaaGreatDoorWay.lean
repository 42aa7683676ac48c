/-
  The slots that are visited for a key: l2Way of the model.
-/
import Derived.Test.YtblkafmamnimjaaGreatDoorMath
import Derived.Test.YtblkafmamnimjaaGreatDoorSort
import Derived.Test.YtblkafmamnimjaaGreatDoorDraw3
import Derived.Test.YtblkafmamnimjaaGreatDoorBase
namespace Go.Proofs.YtblkafmamnimjaaGreatDoor
open Go.RowKit

/-- One step of a way as the program counts it. -/
theorem step_cast (T : Tab) (h j : Nat) : ((h : Int) + (j : Int)) % (T.zs.length : Int) = (stepS T h j : Int) := by
  simp [stepS]

theorem stop_step {p : Nat → Bool} {k : Nat} (h : ∀ j, j < k → p j = false) (hk : p k = false) : ∀ j, j < k + 1 → p j = false := by
  intro j hj
  rcases Nat.lt_succ_iff_lt_or_eq.1 hj with h1 | rfl
  · exact h j h1
  · exact hk

theorem ownsRow_pos' {w : World} {base : Nat} {e : TypeId} {size : Nat} {v : Value} {n : Nat} {xs : List Value} (h : w.ownsRow base e size v n xs) (h0 : 0 < n) : ∃ g cap, v = .slice (some ⟨g, 0, none⟩) n cap := by
  rcases h.2 with ⟨_, h1⟩ | ⟨g, cap, cur, rfl, _⟩
  · omega
  · exact ⟨g, cap, rfl⟩

set_option maxHeartbeats 2000000 in
set_option maxRecDepth 100000 in
theorem l2Way_any (T : Tab) (a : Option Addr) (c : Nat) (key : Int) (w : World) (hv : validB T = true) (h0 : 0 ≤ key) (h9 : key ≤ 99) (h1 : IntsAt w a T.zs) :
    Calls Tryz.prog 99 #[tabV T a c, .int .i64 key] w fun e w' => ∃ (g c' : Nat), e = .returned (.slice (some ⟨g, 0, none⟩) (wayOf T key).length c') ∧ OwnInts w' w.heap.size (some ⟨g, 0, none⟩) (wayOf T key) ∧ Below w.heap.size w w' := by
  obtain ⟨i0, hi, hz0, hz1, hz2⟩ := info_parts Tryz.info3
  have HI := Lib.hid hi; have HZ0 := Lib.hid hz0; have HZ1 := Lib.hid hz1; have HZ2 := Lib.hid hz2
  clear hi hz0 hz1 hz2
  obtain ⟨⟨l1, l2⟩, _⟩ := valid_facts hv
  have S0 := ((St.start w).read h1).alloc #[.int .i64 T.t, .int .i64 T.p, .slice a T.zs.length c] 25
  have hrs := row_start (w.alloc (.cells #[.int .i64 T.t, .int .i64 T.p, .slice a T.zs.length c] 25))
  have S1 := (S0.below ((Below.refl _ _).alloc (Nat.le_refl _) (.cells #[] 3))).add (It.row (w.heap.size + 1) (w.heap.size + 1 + 1) (.slice (some ⟨w.heap.size + 1, 0, none⟩) 0 0) []) (by simp [It.row]) ⟨by simpa using hrs, fun k e => by cases e; simp⟩
  clear hrs S0
  obtain ⟨hn, HN⟩ : ∃ hn, homeN T key = hn := ⟨_, rfl⟩
  have hhl : hn < T.zs.length := by rw [← HN]; exact homeN_lt hv key
  have HH : Hid (homeI T key = (hn : Int)) := Lib.hid (by rw [← HN]; exact (homeN_eq hv key).symm)
  have HW : Hid (wayOf T key = wayTo T hn (visN T key hn)) := Lib.hid (by rw [← HN]; rfl)
  clear HN
  have VALID := Lib.hid hv
  go_enter Tryz.func99, Tryz.ntmps99
  go_wp2_with fail
  obtain ⟨x0, x1, x2, x3, x4, x5, xz⟩ := facts3 (S1.cells 1 rfl)
  go_wp2_with fail
  refine (l1Home_any T a c key _ hv h0 h9).mono ?_
  rw [HH.out]
  rintro e w1 ⟨rfl, hb⟩
  have S2 := S1.below hb
  clear S1 hb x0 x1 x2 x3 x4 x5 xz hv
  obtain ⟨x0, x1, x2, x3, x4, x5, xz⟩ := facts3 (S2.cells 1 rfl)
  have z2 : w.heap.size + 1 < w1.heap.size := S2.sz 0 rfl
  go_wp2_with fail
  clear x0 x1 x2 x3 x4 x5 xz
  go_loopw [5, 16] (fun x i wr => ∃ (j : Nat) (v : Value) (hi' : Nat), j ≤ T.zs.length ∧ i = .int .i64 j ∧ x = v ∧ w.heap.size + 1 < wr.heap.size ∧ Hid (∀ k, k < j → stopAt T key hn k = false) ∧
      St w wr [It.row (w.heap.size + 1) hi' v (wayTo T hn j), It.box w.heap.size #[.int .i64 T.t, .int .i64 T.p, .slice a T.zs.length c] 25, It.read w.heap.size a T.zs]) (fun _ i _ => T.zs.length - (intOf i).toNat)
  case atStart => exact ⟨0, _, _, Nat.zero_le _, rfl, rfl, z2, Lib.hid (fun k hk => by omega), S2⟩
  case round =>
    obtain ⟨j, v, hi', hj, rfl, rfl, hz, HF, Sr⟩ := hrel
    clear S2 z2
    have hwl := wayTo_len T hn j
    by_cases hlt : j < T.zs.length
    · have hq := step_cast T hn j
      have hkl := stepS_lt l1 hn j
      have HS := Lib.hid (wayTo_succ T hn j)
      have HP : Hid (stopAt T key hn j = (nth T.zs (stepS T hn j) == -1 || nth T.zs (stepS T hn j) == key)) := Lib.hid rfl
      generalize stepS T hn j = kk at hq hkl HS HP
      have hown := Sr.rows 0 rfl
      have FR := fun v => (show Far (It.row (w.heap.size + 1) hi' v (wayTo T hn j)) [It.box w.heap.size #[.int .i64 T.t, .int .i64 T.p, .slice a T.zs.length c] 25, It.read w.heap.size a T.zs] from ⟨.inl (Nat.le_refl _), .inl (Nat.le_succ _), trivial⟩)
      obtain ⟨x0, x1, x2, x3, x4, x5, xz⟩ := facts3 (Sr.cells 1 rfl)
      go_wp2_with (at_builtin; refine wpList_append_own _ rfl _ _ 23 rfl (w.heap.size + 1) 3 i0 (.int .i64 0) 1 8 Tryz.underlying23 HI.out HZ0.out HZ1.out HZ2.out rfl (by decide) _ _ _ rfl (hown.alloc _) ⟨wr.heap.size, 0, none⟩ 1 1 [.int .i64 kk] rfl rfl (cell_one_new _ _ _) (by simp [Value.oneCell']) (by rw [hwl]; unfold maxLen; omega) (by rw [hwl]; omega) (by simp; omega) ?_)
      intro v' w5 hown5 hgrow5 _
      obtain ⟨g', cap', rfl⟩ := ownsRow_more hown5
      have S5 := Sr.append (x := kk) (FR _) (Nat.le_succ _) _ (by rw [hwl]; exact hown5) hgrow5
      rw [← HS.out] at S5
      have z5 : w.heap.size + 1 < w5.heap.size := by have := hgrow5.size; simp at this; omega
      clear hown5 hgrow5 hown FR Sr x0 x1 x2 x3 x4 x5 xz
      obtain ⟨x0, x1, x2, x3, x4, x5, xz⟩ := facts3 (S5.cells 1 rfl)
      obtain ⟨b, o, y, rfl, q, Y⟩ := (S5.reads 2 rfl).at hkl
      rw [Y.out] at HP
      cases e1 : (y == -1)
      · cases e2 : (y == key)
        · have HF2 := Lib.hid (stop_step HF.out (by rw [HP.out, e1, e2]; rfl))
          go_wp2
          go_roundw
          case rel => exact ⟨j + 1, _, w5.heap.size, by omega, by go_num, rfl, z5, HF2, S5⟩
          case measure => simp [intOf]; omega
        · have HV : Hid (wayOf T key = wayTo T hn (j + 1)) := Lib.hid (by rw [HW.out, visN_stop hlt HF.out (by rw [HP.out, e1, e2]; rfl)])
          have O5 := Lib.hid (rowInts (S5.rows 0 rfl))
          go_wp2
          go_ret
          exact ⟨g', cap', by rw [HV.out, wayTo_len]; rfl, by rw [HV.out]; exact O5.out.mono (Nat.le_succ _), S5.old⟩
      · have HV : Hid (wayOf T key = wayTo T hn (j + 1)) := Lib.hid (by rw [HW.out, visN_stop hlt HF.out (by rw [HP.out, e1]; rfl)])
        have O5 := Lib.hid (rowInts (S5.rows 0 rfl))
        go_wp2
        go_ret
        exact ⟨g', cap', by rw [HV.out, wayTo_len]; rfl, by rw [HV.out]; exact O5.out.mono (Nat.le_succ _), S5.old⟩
    · obtain rfl : j = T.zs.length := by omega
      have HV : Hid (wayOf T key = wayTo T hn T.zs.length) := Lib.hid (by rw [HW.out, visN_all HF.out])
      obtain ⟨g', c5, rfl⟩ := ownsRow_pos' (Sr.rows 0 rfl) (by rw [hwl]; omega)
      rw [hwl] at Sr
      have O5 := Lib.hid (rowInts (Sr.rows 0 rfl))
      go_wp2
      go_ret
      exact ⟨g', c5, by rw [HV.out, wayTo_len]; rfl, by rw [HV.out]; exact O5.out.mono (Nat.le_succ _), Sr.old⟩

end Go.Proofs.YtblkafmamnimjaaGreatDoor

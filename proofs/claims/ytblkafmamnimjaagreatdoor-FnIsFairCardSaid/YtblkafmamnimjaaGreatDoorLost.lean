/-
  LostKeys and IsSound of the model.
-/
import Derived.Test.YtblkafmamnimjaaGreatDoorFindS
import Derived.Maps.AppendAt
namespace Go.Proofs.YtblkafmamnimjaaGreatDoor
open Go.RowKit

/-- The lost keys among the first k of a list. -/
def lostTo (T : Tab) (ss : List Int) (k : Nat) : List Int := (ss.take k).filter fun x => decide (findI T x < 0)
theorem lostTo_yes {T : Tab} {ss : List Int} {k : Nat} {x : Int} (hk : k < ss.length) (hx : nth ss k = x) (h : findI T x < 0) : lostTo T ss (k + 1) = lostTo T ss k ++ [x] := by
  have e : ss[k] = x := by simpa [nth, List.getElem?_eq_getElem hk] using hx
  rw [lostTo, List.take_succ_eq_append_getElem hk, List.filter_append, e]
  simp [lostTo, h]
theorem lostTo_no {T : Tab} {ss : List Int} {k : Nat} {x : Int} (hk : k < ss.length) (hx : nth ss k = x) (h : ¬ findI T x < 0) : lostTo T ss (k + 1) = lostTo T ss k := by
  have e : ss[k] = x := by simpa [nth, List.getElem?_eq_getElem hk] using hx
  rw [lostTo, List.take_succ_eq_append_getElem hk, List.filter_append, e]
  simp [lostTo, h]
theorem lostTo_len (T : Tab) (ss : List Int) (k : Nat) : (lostTo T ss k).length ≤ k :=
  Nat.le_trans (List.length_filter_le _ _) (List.length_take_le _ _)
theorem lostTo_all {T : Tab} (hv : validB T = true) : lostTo T (sortU T.zs) (sortU T.zs).length = lostOf T := by
  simp [lostTo, lostOf, hv]

theorem nth_mem' {ss : List Int} {k : Nat} (hk : k < ss.length) : nth ss k ∈ ss := by
  rw [nth, List.getElem?_eq_getElem hk]
  exact List.getElem_mem hk

set_option maxHeartbeats 4000000 in
set_option maxRecDepth 100000 in
theorem specLostKeys_any (T : Tab) (a : Option Addr) (c : Nat) (w : World) (hx : T.zs.length ≤ 9223372036854775807) (h1 : IntsAt w a T.zs) :
    Calls Tryz.prog 109 #[tabV T a c] w fun e w' => ∃ a' c', e = .returned (.tuple #[.slice a' (lostOf T).length c', .bool (validB T)]) ∧ OwnInts w' w.heap.size a' (lostOf T) ∧ Below w.heap.size w w' := by
  obtain ⟨i0, hi, hz0, hz1, hz2⟩ := info_parts Tryz.info3
  have HI := Lib.hid hi; have HZ0 := Lib.hid hz0; have HZ1 := Lib.hid hz1; have HZ2 := Lib.hid hz2
  clear hi hz0 hz1 hz2
  have S0 := ((St.start w).read h1).alloc #[.int .i64 T.t, .int .i64 T.p, .slice a T.zs.length c] 25
  have hrs := row_start (w.alloc (.cells #[.int .i64 T.t, .int .i64 T.p, .slice a T.zs.length c] 25))
  have S1 := (S0.below ((Below.refl _ _).alloc (Nat.le_refl _) (.cells #[] 3))).add (It.row (w.heap.size + 1) (w.heap.size + 1 + 1) (.slice (some ⟨w.heap.size + 1, 0, none⟩) 0 0) []) (by simp [It.row]) ⟨by simpa using hrs, fun k e => by cases e; simp⟩
  clear hrs S0
  cases hv : validB T
  · have R : Hid (lostOf T = []) := Lib.hid (by simp [lostOf, hv])
    obtain ⟨x0, x1, x2, x3, x4, x5, xz⟩ := facts3 (S1.cells 1 rfl)
    go_enter Tryz.func109, Tryz.ntmps109
    go_wp2_with fail
    refine (specTableValid_any T a c _ hx (by exact S1.reads 2 rfl)).mono ?_
    rw [hv]
    rintro e w1 ⟨rfl, hb⟩
    have S2 := S1.below hb
    go_wp2
    go_ret2
    exact ⟨_, 0, by rw [R.out]; rfl, by rw [R.out]; exact (rowInts (S2.rows 0 rfl)).mono (Nat.le_succ _), S2.old⟩
  · have HV := Lib.hid hv
    have hsl : (sortU T.zs).length ≤ 100 := sortTo_len _ _
    have HK : Hid (∀ k, k < (sortU T.zs).length → 0 ≤ nth (sortU T.zs) k ∧ nth (sortU T.zs) k ≤ 99) := Lib.hid fun k hk => (sortU_mem.1 (nth_mem' hk)).1
    have HA : Hid (lostTo T (sortU T.zs) (sortU T.zs).length = lostOf T) := Lib.hid (lostTo_all hv)
    obtain ⟨x0, x1, x2, x3, x4, x5, xz⟩ := facts3 (S1.cells 1 rfl)
    clear hv
    go_enter Tryz.func109, Tryz.ntmps109
    go_wp2_with fail
    refine (specTableValid_any T a c _ hx (by exact S1.reads 2 rfl)).mono ?_
    rw [HV.out]
    rintro e w1 ⟨rfl, hb⟩
    have S2 := S1.below hb
    have z2 : w.heap.size + 1 < w1.heap.size := S2.sz 0 rfl
    clear S1 hb x0 x1 x2 x3 x4 x5 xz
    obtain ⟨x0, x1, x2, x3, x4, x5, xz⟩ := facts3 (S2.cells 1 rfl)
    go_wp2_with fail
    refine (l1Sort_any a c T.zs _ hx (by exact S2.reads 2 rfl)).mono ?_
    rintro e w2 ⟨a2, c2, rfl, ho, hb⟩
    have S3 := S2.below hb
    have z3 := hb.size
    have I3 := Lib.hid ho.ints
    have P3 : Hid (∀ p, a2 = some p → w1.heap.size ≤ p.block ∧ p.block < w2.heap.size) := Lib.hid ho.1
    clear S2 hb ho x0 x1 x2 x3 x4 x5 xz
    generalize sortU T.zs = ss at hsl HK HA I3
    obtain ⟨n, hn⟩ : ∃ n, ss.length = n := ⟨_, rfl⟩
    rw [hn] at HA hsl HK
    go_wp2_with fail
    go_loopw [4, 16] (fun x i wr => ∃ (j : Nat) (v : Value) (hi' : Nat), j ≤ n ∧ i = .int .i64 j ∧ x = v ∧ Hid (∀ g, v.ownBlock = some g → g = w.heap.size + 1 ∨ w2.heap.size ≤ g) ∧ w2.heap.size ≤ wr.heap.size ∧ Hid (IntsAt wr a2 ss) ∧
        St w wr [It.row (w.heap.size + 1) hi' v (lostTo T ss j), It.box w.heap.size #[.int .i64 T.t, .int .i64 T.p, .slice a T.zs.length c] 25, It.read w.heap.size a T.zs]) (fun _ i _ => n - (intOf i).toNat)
    case atStart => exact ⟨0, _, _, Nat.zero_le _, rfl, rfl, Lib.hid (fun g hg => by cases hg; exact .inl rfl), Nat.le_refl _, I3, S3⟩
    case round =>
      obtain ⟨j, v, hi', hj, rfl, rfl, HB, hz, HN, Sr⟩ := hrel
      clear S3 I3
      have hll := lostTo_len T ss j
      by_cases hlt : j < n
      · obtain ⟨x0, x1, x2, x3, x4, x5, xz⟩ := facts3 (Sr.cells 1 rfl)
        obtain ⟨b2, o2, y, ea, q, Y⟩ := HN.out.at (k := j) (by rw [hn]; exact hlt)
        subst ea
        obtain ⟨k0, k9⟩ := HK.out j hlt
        rw [Y.out] at k0 k9
        obtain ⟨p0, p1⟩ := P3.out _ rfl
        obtain ⟨f, hf⟩ : ∃ f, findI T y = f := ⟨_, rfl⟩
        go_wp2_with fail
        refine (l2Find_any T a c y _ HV.out k0 k9 (by exact Sr.reads 2 rfl)).mono ?_
        rw [hf]
        rintro e w5 ⟨rfl, hb⟩
        have S5 := Sr.below hb
        have z5 := hb.size
        have HN5 := Lib.hid (HN.out.below hb)
        clear Sr HN hb x0 x1 x2 x3 x4 x5 xz q
        by_cases hf0 : f < 0
        · have d : decide (f < 0) = true := decide_eq_true hf0
          have HS : Hid (lostTo T ss (j + 1) = lostTo T ss j ++ [y]) := Lib.hid (lostTo_yes (by rw [hn]; exact hlt) Y.out (by rw [hf]; exact hf0))
          have hown := S5.rows 0 rfl
          have FR := fun v => (show Far (It.row (w.heap.size + 1) hi' v (lostTo T ss j)) [It.box w.heap.size #[.int .i64 T.t, .int .i64 T.p, .slice a T.zs.length c] 25, It.read w.heap.size a T.zs] from ⟨.inl (Nat.le_refl _), .inl (Nat.le_succ _), trivial⟩)
          go_wp2_with (at_builtin; refine wpList_append_own_at _ rfl _ _ 23 rfl (w.heap.size + 1) 3 i0 (.int .i64 0) 1 8 Tryz.underlying23 HI.out HZ0.out HZ1.out HZ2.out rfl (by decide) _ _ _ rfl (hown.alloc _) ⟨w5.heap.size, 0, none⟩ 1 1 [.int .i64 y] rfl rfl (cell_one_new _ _ _) (by simp [Value.oneCell']) (by unfold maxLen; omega) (by omega) (by simp; omega) ?_)
          intro v' w6 hown6 hgrow6 _ hat6
          obtain ⟨g', cap', rfl⟩ := ownsRow_more hown6
          have S6 := S5.append (x := y) (FR _) (Nat.le_succ _) _ hown6 hgrow6
          rw [← HS.out] at S6
          have z6 : w5.heap.size + 1 ≤ w6.heap.size := by have := hgrow6.size; simpa using this
          have HN6 : Hid (IntsAt w6 (some ⟨b2, o2, none⟩) ss) := Lib.hid ((HN5.out.below ((Below.refl _ _).alloc (Nat.le_refl _) _)).grown hgrow6 (fun _ e => by
            rcases HB.out b2 e.symm with h | h <;> omega))
          have HB6 : Hid (∀ g, (Value.slice (some ⟨g', 0, none⟩) ((lostTo T ss j).length + 1) cap').ownBlock = some g → g = w.heap.size + 1 ∨ w2.heap.size ≤ g) := Lib.hid (fun g hg => by
            rcases hat6 with h | h
            · exact HB.out g (by rw [← h]; exact hg)
            · rw [hg] at h
              have : g = _ := Option.some.inj h
              right; rw [this]; first | omega | (simp; omega))
          clear hown6 hgrow6 hat6 hown FR S5 HN5
          go_wp2
          go_roundw
          case rel => exact ⟨j + 1, _, w6.heap.size, by omega, by go_num, rfl, HB6, by omega, HN6, S6⟩
          case measure => simp [intOf]; omega
        · have d : decide (f < 0) = false := decide_eq_false hf0
          have HS : Hid (lostTo T ss (j + 1) = lostTo T ss j) := Lib.hid (lostTo_no (by rw [hn]; exact hlt) Y.out (by rw [hf]; exact hf0))
          rw [← HS.out] at S5
          go_wp2
          go_roundw
          case rel => exact ⟨j + 1, _, hi', by omega, by go_num, rfl, HB, by omega, HN5, S5⟩
          case measure => simp [intOf]; omega
      · obtain rfl : j = n := by omega
        obtain ⟨a5, c5, rfl⟩ := ownsRow_slice (Sr.rows 0 rfl)
        have O5 := Lib.hid (rowInts (Sr.rows 0 rfl))
        rw [HA.out] at O5 Sr
        rw [HA.out]
        go_wp2
        go_ret2
        exact ⟨a5, c5, rfl, O5.out.mono (Nat.le_succ _), Sr.old⟩

theorem zero_int (n : Nat) : ((n : Int) == 0) = decide (n = 0) := by
  by_cases h : n = 0 <;> simp [h]
theorem soundB_no {T : Tab} (h : validB T = false) : soundB T = false := by simp [soundB, h]
theorem soundB_yes {T : Tab} (h : validB T = true) : soundB T = decide ((lostOf T).length = 0) := by simp [soundB, h]

set_option maxHeartbeats 1000000 in
theorem specIsSound_any (T : Tab) (a : Option Addr) (c : Nat) (w : World) (hx : T.zs.length ≤ 9223372036854775807) (h1 : IntsAt w a T.zs) :
    Calls Tryz.prog 83 #[tabV T a c] w fun e w' => e = .returned (.bool (soundB T)) ∧ Below w.heap.size w w' := by
  have S0 := ((St.start w).read h1).alloc #[.int .i64 T.t, .int .i64 T.p, .slice a T.zs.length c] 25
  obtain ⟨n, hn⟩ : ∃ n, (lostOf T).length = n := ⟨_, rfl⟩
  go_enter Tryz.func83, Tryz.ntmps83
  go_wp2_with fail
  refine (specLostKeys_any T a c _ hx (by exact S0.reads 1 rfl)).mono ?_
  rw [hn]
  rintro e w1 ⟨a2, c2, rfl, ho, hb⟩
  have S1 := S0.below hb
  cases hv : validB T
  · have R : Hid (soundB T = false) := Lib.hid (soundB_no hv)
    go_wp2
    go_ret
    exact ⟨by rw [R.out]; rfl, S1.old⟩
  · have R : Hid (soundB T = decide (n = 0)) := Lib.hid (by rw [soundB_yes hv, hn])
    go_wp2
    go_ret
    exact ⟨by rw [R.out]; simp; exact zero_int n, S1.old⟩

end Go.Proofs.YtblkafmamnimjaaGreatDoor

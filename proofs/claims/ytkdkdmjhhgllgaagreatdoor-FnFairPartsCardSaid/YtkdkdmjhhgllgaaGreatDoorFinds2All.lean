/-
  Fair tables: several texts as one.
-/
import Derived.Test.YtkdkdmjhhgllgaaGreatDoorMath
import Derived.Test.YtkdkdmjhhgllgaaGreatDoorSort
import Derived.Test.YtkdkdmjhhgllgaaGreatDoorDraw3
import Derived.Test.YtkdkdmjhhgllgaaGreatDoorBase
import Derived.Deep.RegionHeld3
import Derived.Maps.AppendAt
import Derived.Test.YtkdkdmjhhgllgaaGreatDoorPick
import Derived.Test.YtkdkdmjhhgllgaaGreatDoorAway
section
namespace Go.Proofs.YtkdkdmjhhgllgaaGreatDoor
open Go.RowKit

/-- One step of a way as the program counts it. -/
theorem step_cast (T : Tab) (h j : Nat) : ((h : Int) + (j : Int)) % (T.zs.length : Int) = (stepS T h j : Int) := by
  simp [stepS]

theorem stop_step {p : Nat → Bool} {k : Nat} (h : ∀ j, j < k → p j = false) (hk : p k = false) : ∀ j, j < k + 1 → p j = false := by
  intro j hj
  rcases Nat.lt_succ_iff_lt_or_eq.1 hj with h1 | rfl
  · exact h j h1
  · exact hk

theorem ownsRow_pos' {w : World} {base : Nat} {e : TypeId} {size : Nat} {v : Value} {n : Nat} {xs : List Value} (h : w.ownsRow base e size v n xs) (h0 : 0 < n) : ∃ g cap, v = .slice (some ⟨g, 0, none⟩) n cap := by
  rcases h.2 with ⟨_, h1⟩ | ⟨g, cap, cur, rfl, _⟩
  · omega
  · exact ⟨g, cap, rfl⟩

set_option maxHeartbeats 2000000 in
set_option maxRecDepth 100000 in
theorem l2Way_any (T : Tab) (a : Option Addr) (c : Nat) (key : Int) (w : World) (hv : validB T = true) (h0 : 0 ≤ key) (h9 : key ≤ 99) (h1 : IntsAt w a T.zs) :
    Calls Tryz.prog 57 #[tabV T a c, .int .i64 key] w fun e w' => ∃ (g c' : Nat), e = .returned (.slice (some ⟨g, 0, none⟩) (wayOf T key).length c') ∧ OwnInts w' w.heap.size (some ⟨g, 0, none⟩) (wayOf T key) ∧ Below w.heap.size w w' := by
  obtain ⟨i0, hi, hz0, hz1, hz2⟩ := info_parts Tryz.info3
  have HI := Lib.hid hi; have HZ0 := Lib.hid hz0; have HZ1 := Lib.hid hz1; have HZ2 := Lib.hid hz2
  clear hi hz0 hz1 hz2
  obtain ⟨⟨l1, l2⟩, _⟩ := valid_facts hv
  have S0 := ((St.start w).read h1).alloc #[.int .i64 T.t, .int .i64 T.p, .slice a T.zs.length c] 25
  have hrs := row_start (w.alloc (.cells #[.int .i64 T.t, .int .i64 T.p, .slice a T.zs.length c] 25))
  have S1 := (S0.below ((Below.refl _ _).alloc (Nat.le_refl _) (.cells #[] 3))).add (It.row (w.heap.size + 1) (w.heap.size + 1 + 1) (.slice (some ⟨w.heap.size + 1, 0, none⟩) 0 0) []) (by simp [It.row]) ⟨by simpa using hrs, fun k e => by cases e; simp⟩
  clear hrs S0
  obtain ⟨hn, HN⟩ : ∃ hn, homeN T key = hn := ⟨_, rfl⟩
  have hhl : hn < T.zs.length := by rw [← HN]; exact homeN_lt hv key
  have HH : Hid (homeI T key = (hn : Int)) := Lib.hid (by rw [← HN]; exact (homeN_eq hv key).symm)
  have HW : Hid (wayOf T key = wayTo T hn (visN T key hn)) := Lib.hid (by rw [← HN]; rfl)
  clear HN
  have VALID := Lib.hid hv
  go_enter Tryz.func57, Tryz.ntmps57
  go_wp2_with fail
  obtain ⟨x0, x1, x2, x3, x4, x5, xz⟩ := facts3 (S1.cells 1 rfl)
  go_wp2_with fail
  refine (l1Home_any T a c key _ hv h0 h9).mono ?_
  rw [HH.out]
  rintro e w1 ⟨rfl, hb⟩
  have S2 := S1.below hb
  clear S1 hb x0 x1 x2 x3 x4 x5 xz hv
  obtain ⟨x0, x1, x2, x3, x4, x5, xz⟩ := facts3 (S2.cells 1 rfl)
  have z2 : w.heap.size + 1 < w1.heap.size := S2.sz 0 rfl
  go_wp2_with fail
  clear x0 x1 x2 x3 x4 x5 xz
  go_loopw [5, 16] (fun x i wr => ∃ (j : Nat) (v : Value) (hi' : Nat), j ≤ T.zs.length ∧ i = .int .i64 j ∧ x = v ∧ w.heap.size + 1 < wr.heap.size ∧ Hid (∀ k, k < j → stopAt T key hn k = false) ∧
      St w wr [It.row (w.heap.size + 1) hi' v (wayTo T hn j), It.box w.heap.size #[.int .i64 T.t, .int .i64 T.p, .slice a T.zs.length c] 25, It.read w.heap.size a T.zs]) (fun _ i _ => T.zs.length - (intOf i).toNat)
  case atStart => exact ⟨0, _, _, Nat.zero_le _, rfl, rfl, z2, Lib.hid (fun k hk => by omega), S2⟩
  case round =>
    obtain ⟨j, v, hi', hj, rfl, rfl, hz, HF, Sr⟩ := hrel
    clear S2 z2
    have hwl := wayTo_len T hn j
    by_cases hlt : j < T.zs.length
    · have hq := step_cast T hn j
      have hkl := stepS_lt l1 hn j
      have HS := Lib.hid (wayTo_succ T hn j)
      have HP : Hid (stopAt T key hn j = (nth T.zs (stepS T hn j) == -1 || nth T.zs (stepS T hn j) == key)) := Lib.hid rfl
      generalize stepS T hn j = kk at hq hkl HS HP
      have hown := Sr.rows 0 rfl
      have FR := fun v => (show Far (It.row (w.heap.size + 1) hi' v (wayTo T hn j)) [It.box w.heap.size #[.int .i64 T.t, .int .i64 T.p, .slice a T.zs.length c] 25, It.read w.heap.size a T.zs] from ⟨.inl (Nat.le_refl _), .inl (Nat.le_succ _), trivial⟩)
      obtain ⟨x0, x1, x2, x3, x4, x5, xz⟩ := facts3 (Sr.cells 1 rfl)
      go_wp2_with (at_builtin; refine wpList_append_own _ rfl _ _ 23 rfl (w.heap.size + 1) 3 i0 (.int .i64 0) 1 8 Tryz.underlying23 HI.out HZ0.out HZ1.out HZ2.out rfl (by decide) _ _ _ rfl (hown.alloc _) ⟨wr.heap.size, 0, none⟩ 1 1 [.int .i64 kk] rfl rfl (cell_one_new _ _ _) (by simp [Value.oneCell']) (by rw [hwl]; unfold maxLen; omega) (by rw [hwl]; omega) (by simp; omega) ?_)
      intro v' w5 hown5 hgrow5 _
      obtain ⟨g', cap', rfl⟩ := ownsRow_more hown5
      have S5 := Sr.append (x := kk) (FR _) (Nat.le_succ _) _ (by rw [hwl]; exact hown5) hgrow5
      rw [← HS.out] at S5
      have z5 : w.heap.size + 1 < w5.heap.size := by have := hgrow5.size; simp at this; omega
      clear hown5 hgrow5 hown FR Sr x0 x1 x2 x3 x4 x5 xz
      obtain ⟨x0, x1, x2, x3, x4, x5, xz⟩ := facts3 (S5.cells 1 rfl)
      obtain ⟨b, o, y, rfl, q, Y⟩ := (S5.reads 2 rfl).at hkl
      rw [Y.out] at HP
      cases e1 : (y == -1)
      · cases e2 : (y == key)
        · have HF2 := Lib.hid (stop_step HF.out (by rw [HP.out, e1, e2]; rfl))
          go_wp2
          go_roundw
          case rel => exact ⟨j + 1, _, w5.heap.size, by omega, by go_num, rfl, z5, HF2, S5⟩
          case measure => simp [intOf]; omega
        · have HV : Hid (wayOf T key = wayTo T hn (j + 1)) := Lib.hid (by rw [HW.out, visN_stop hlt HF.out (by rw [HP.out, e1, e2]; rfl)])
          have O5 := Lib.hid (rowInts (S5.rows 0 rfl))
          go_wp2
          go_ret
          exact ⟨g', cap', by rw [HV.out, wayTo_len]; rfl, by rw [HV.out]; exact O5.out.mono (Nat.le_succ _), S5.old⟩
      · have HV : Hid (wayOf T key = wayTo T hn (j + 1)) := Lib.hid (by rw [HW.out, visN_stop hlt HF.out (by rw [HP.out, e1]; rfl)])
        have O5 := Lib.hid (rowInts (S5.rows 0 rfl))
        go_wp2
        go_ret
        exact ⟨g', cap', by rw [HV.out, wayTo_len]; rfl, by rw [HV.out]; exact O5.out.mono (Nat.le_succ _), S5.old⟩
    · obtain rfl : j = T.zs.length := by omega
      have HV : Hid (wayOf T key = wayTo T hn T.zs.length) := Lib.hid (by rw [HW.out, visN_all HF.out])
      obtain ⟨g', c5, rfl⟩ := ownsRow_pos' (Sr.rows 0 rfl) (by rw [hwl]; omega)
      rw [hwl] at Sr
      have O5 := Lib.hid (rowInts (Sr.rows 0 rfl))
      go_wp2
      go_ret
      exact ⟨g', c5, by rw [HV.out, wayTo_len]; rfl, by rw [HV.out]; exact O5.out.mono (Nat.le_succ _), Sr.old⟩

end Go.Proofs.YtkdkdmjhhgllgaaGreatDoor
end

section
namespace Go.Proofs.YtkdkdmjhhgllgaaGreatDoor
open Go.RowKit

theorem way_last (T : Tab) (hv : validB T = true) (key : Int) : ∃ m, (wayOf T key).length = m + 1 ∧ nth (wayOf T key) m = (lastOf T key : Int) ∧ m < T.zs.length := by
  obtain ⟨⟨l1, _⟩, _⟩ := valid_facts hv
  obtain ⟨v1, v2⟩ := visN_bounds l1 key (homeN T key)
  refine ⟨visN T key (homeN T key) - 1, ?_, ?_, by omega⟩
  · rw [wayOf, wayTo_len]; omega
  · rw [wayOf, wayTo_nth (by omega)]; rfl

set_option maxHeartbeats 1000000 in
set_option maxRecDepth 100000 in
theorem l2Find_any (T : Tab) (a : Option Addr) (c : Nat) (key : Int) (w : World) (hv : validB T = true) (h0 : 0 ≤ key) (h9 : key ≤ 99) (h1 : IntsAt w a T.zs) :
    Calls Tryz.prog 26 #[tabV T a c, .int .i64 key] w fun e w' => e = .returned (.int .i64 (findI T key)) ∧ Below w.heap.size w w' := by
  obtain ⟨⟨l1, l2⟩, _⟩ := valid_facts hv
  obtain ⟨m, hm, hl, hm16⟩ := way_last T hv key
  have HL := Lib.hid hl
  have HM := Lib.hid hm
  have hlt := lastOf_lt l1 key
  have HF : Hid (findI T key = if nth T.zs (lastOf T key) = key then (lastOf T key : Int) else -1) := Lib.hid rfl
  clear hl hm
  generalize lastOf T key = kk at hlt HL HF
  have S0 := ((St.start w).read h1).alloc #[.int .i64 T.t, .int .i64 T.p, .slice a T.zs.length c] 25
  go_enter Tryz.func26, Tryz.ntmps26
  go_wp2_with fail
  refine (l2Way_any T a c key _ hv h0 h9 (by exact S0.reads 1 rfl)).mono ?_
  rw [HM.out]
  rintro e w1 ⟨g, c', rfl, ho, hb⟩
  have S1 := S0.below hb
  clear S0 hb
  obtain ⟨x0, x1, x2, x3, x4, x5, xz⟩ := facts3 (S1.cells 0 rfl)
  obtain ⟨b, o, y, rfl, q, Y⟩ := (S1.reads 1 rfl).at hlt
  obtain ⟨b2, o2, y2, e2, q2, Y2⟩ := ho.ints.at (k := m) (by rw [HM.out]; exact Nat.lt_succ_self m)
  cases e2
  have hy2 : y2 = (kk : Int) := Y2.out.symm.trans HL.out
  subst hy2
  rw [Nat.zero_add] at q2
  rw [Y.out] at HF
  have S2 := S1.old
  clear S1 ho
  cases e1 : (y == key)
  · have R : Hid (findI T key = -1) := Lib.hid (by rw [HF.out, if_neg (by simpa using e1)])
    go_wp2
    go_ret
    exact ⟨ret_int R.out.symm, S2⟩
  · have R : Hid (findI T key = kk) := Lib.hid (by rw [HF.out, if_pos (by simpa using e1)])
    go_wp2
    go_ret
    exact ⟨ret_int R.out.symm, S2⟩

set_option maxHeartbeats 400000 in
theorem l2Asked_any (T : Tab) (a : Option Addr) (c : Nat) (key : Int) (w : World) (hx : T.zs.length ≤ 9223372036854775807) (h1 : IntsAt w a T.zs) :
    Calls Tryz.prog 100 #[tabV T a c, .int .i64 key] w fun e w' => e = .returned (.bool (validB T && inB key 0 99)) ∧ Below w.heap.size w w' := by
  have S0 := ((St.start w).read h1).alloc #[.int .i64 T.t, .int .i64 T.p, .slice a T.zs.length c] 25
  cases hv : validB T
  · go_enter Tryz.func100, Tryz.ntmps100
    go_wp2_with fail
    refine (specTableValid_any T a c _ hx (by exact S0.reads 1 rfl)).mono ?_
    rw [hv]
    rintro e w1 ⟨rfl, hb⟩
    have S1 := S0.below hb
    go_wp2
    go_ret
    exact ⟨rfl, S1.old⟩
  · go_enter Tryz.func100, Tryz.ntmps100
    go_wp2_with fail
    refine (specTableValid_any T a c _ hx (by exact S0.reads 1 rfl)).mono ?_
    rw [hv]
    rintro e w1 ⟨rfl, hb⟩
    have S1 := S0.below hb
    go_wp2_with (first | (go_at_call 56; refine (l1Key_any _ _).mono ?_; rintro e w' ⟨rfl, rfl⟩))
    go_ret
    exact ⟨rfl, S1.old⟩

/-- What l2Asked asks. -/
theorem asked_yes {T : Tab} {key : Int} (h : (validB T && inB key 0 99) = true) : validB T = true ∧ 0 ≤ key ∧ key ≤ 99 := by
  rw [Bool.and_eq_true] at h
  have := inB_iff.1 h.2
  exact ⟨h.1, this⟩

end Go.Proofs.YtkdkdmjhhgllgaaGreatDoor
end

section
namespace Go.Proofs.YtkdkdmjhhgllgaaGreatDoor
open Go.RowKit

/-- The lost keys among the first k of a list. -/
def lostTo (T : Tab) (ss : List Int) (k : Nat) : List Int := (ss.take k).filter fun x => decide (findI T x < 0)
theorem lostTo_yes {T : Tab} {ss : List Int} {k : Nat} {x : Int} (hk : k < ss.length) (hx : nth ss k = x) (h : findI T x < 0) : lostTo T ss (k + 1) = lostTo T ss k ++ [x] := by
  have e : ss[k] = x := by simpa [nth, List.getElem?_eq_getElem hk] using hx
  rw [lostTo, List.take_succ_eq_append_getElem hk, List.filter_append, e]
  simp [lostTo, h]
theorem lostTo_no {T : Tab} {ss : List Int} {k : Nat} {x : Int} (hk : k < ss.length) (hx : nth ss k = x) (h : ¬ findI T x < 0) : lostTo T ss (k + 1) = lostTo T ss k := by
  have e : ss[k] = x := by simpa [nth, List.getElem?_eq_getElem hk] using hx
  rw [lostTo, List.take_succ_eq_append_getElem hk, List.filter_append, e]
  simp [lostTo, h]
theorem lostTo_len (T : Tab) (ss : List Int) (k : Nat) : (lostTo T ss k).length ≤ k :=
  Nat.le_trans (List.length_filter_le _ _) (List.length_take_le _ _)
theorem lostTo_all {T : Tab} (hv : validB T = true) : lostTo T (sortU T.zs) (sortU T.zs).length = lostOf T := by
  simp [lostTo, lostOf, hv]

theorem nth_mem' {ss : List Int} {k : Nat} (hk : k < ss.length) : nth ss k ∈ ss := by
  rw [nth, List.getElem?_eq_getElem hk]
  exact List.getElem_mem hk

set_option maxHeartbeats 4000000 in
set_option maxRecDepth 100000 in
theorem specLostKeys_any (T : Tab) (a : Option Addr) (c : Nat) (w : World) (hx : T.zs.length ≤ 9223372036854775807) (h1 : IntsAt w a T.zs) :
    Calls Tryz.prog 102 #[tabV T a c] w fun e w' => ∃ a' c', e = .returned (.tuple #[.slice a' (lostOf T).length c', .bool (validB T)]) ∧ OwnInts w' w.heap.size a' (lostOf T) ∧ Below w.heap.size w w' := by
  obtain ⟨i0, hi, hz0, hz1, hz2⟩ := info_parts Tryz.info3
  have HI := Lib.hid hi; have HZ0 := Lib.hid hz0; have HZ1 := Lib.hid hz1; have HZ2 := Lib.hid hz2
  clear hi hz0 hz1 hz2
  have S0 := ((St.start w).read h1).alloc #[.int .i64 T.t, .int .i64 T.p, .slice a T.zs.length c] 25
  have hrs := row_start (w.alloc (.cells #[.int .i64 T.t, .int .i64 T.p, .slice a T.zs.length c] 25))
  have S1 := (S0.below ((Below.refl _ _).alloc (Nat.le_refl _) (.cells #[] 3))).add (It.row (w.heap.size + 1) (w.heap.size + 1 + 1) (.slice (some ⟨w.heap.size + 1, 0, none⟩) 0 0) []) (by simp [It.row]) ⟨by simpa using hrs, fun k e => by cases e; simp⟩
  clear hrs S0
  cases hv : validB T
  · have R : Hid (lostOf T = []) := Lib.hid (by simp [lostOf, hv])
    obtain ⟨x0, x1, x2, x3, x4, x5, xz⟩ := facts3 (S1.cells 1 rfl)
    go_enter Tryz.func102, Tryz.ntmps102
    go_wp2_with fail
    refine (specTableValid_any T a c _ hx (by exact S1.reads 2 rfl)).mono ?_
    rw [hv]
    rintro e w1 ⟨rfl, hb⟩
    have S2 := S1.below hb
    go_wp2
    go_ret2
    exact ⟨_, 0, by rw [R.out]; rfl, by rw [R.out]; exact (rowInts (S2.rows 0 rfl)).mono (Nat.le_succ _), S2.old⟩
  · have HV := Lib.hid hv
    have hsl : (sortU T.zs).length ≤ 100 := sortTo_len _ _
    have HK : Hid (∀ k, k < (sortU T.zs).length → 0 ≤ nth (sortU T.zs) k ∧ nth (sortU T.zs) k ≤ 99) := Lib.hid fun k hk => (sortU_mem.1 (nth_mem' hk)).1
    have HA : Hid (lostTo T (sortU T.zs) (sortU T.zs).length = lostOf T) := Lib.hid (lostTo_all hv)
    obtain ⟨x0, x1, x2, x3, x4, x5, xz⟩ := facts3 (S1.cells 1 rfl)
    clear hv
    go_enter Tryz.func102, Tryz.ntmps102
    go_wp2_with fail
    refine (specTableValid_any T a c _ hx (by exact S1.reads 2 rfl)).mono ?_
    rw [HV.out]
    rintro e w1 ⟨rfl, hb⟩
    have S2 := S1.below hb
    have z2 : w.heap.size + 1 < w1.heap.size := S2.sz 0 rfl
    clear S1 hb x0 x1 x2 x3 x4 x5 xz
    obtain ⟨x0, x1, x2, x3, x4, x5, xz⟩ := facts3 (S2.cells 1 rfl)
    go_wp2_with fail
    refine (l1Sort_any a c T.zs _ hx (by exact S2.reads 2 rfl)).mono ?_
    rintro e w2 ⟨a2, c2, rfl, ho, hb⟩
    have S3 := S2.below hb
    have z3 := hb.size
    have I3 := Lib.hid ho.ints
    have P3 : Hid (∀ p, a2 = some p → w1.heap.size ≤ p.block ∧ p.block < w2.heap.size) := Lib.hid ho.1
    clear S2 hb ho x0 x1 x2 x3 x4 x5 xz
    generalize sortU T.zs = ss at hsl HK HA I3
    obtain ⟨n, hn⟩ : ∃ n, ss.length = n := ⟨_, rfl⟩
    rw [hn] at HA hsl HK
    go_wp2_with fail
    go_loopw [4, 16] (fun x i wr => ∃ (j : Nat) (v : Value) (hi' : Nat), j ≤ n ∧ i = .int .i64 j ∧ x = v ∧ Hid (∀ g, v.ownBlock = some g → g = w.heap.size + 1 ∨ w2.heap.size ≤ g) ∧ w2.heap.size ≤ wr.heap.size ∧ Hid (IntsAt wr a2 ss) ∧
        St w wr [It.row (w.heap.size + 1) hi' v (lostTo T ss j), It.box w.heap.size #[.int .i64 T.t, .int .i64 T.p, .slice a T.zs.length c] 25, It.read w.heap.size a T.zs]) (fun _ i _ => n - (intOf i).toNat)
    case atStart => exact ⟨0, _, _, Nat.zero_le _, rfl, rfl, Lib.hid (fun g hg => by cases hg; exact .inl rfl), Nat.le_refl _, I3, S3⟩
    case round =>
      obtain ⟨j, v, hi', hj, rfl, rfl, HB, hz, HN, Sr⟩ := hrel
      clear S3 I3
      have hll := lostTo_len T ss j
      by_cases hlt : j < n
      · obtain ⟨x0, x1, x2, x3, x4, x5, xz⟩ := facts3 (Sr.cells 1 rfl)
        obtain ⟨b2, o2, y, ea, q, Y⟩ := HN.out.at (k := j) (by rw [hn]; exact hlt)
        subst ea
        obtain ⟨k0, k9⟩ := HK.out j hlt
        rw [Y.out] at k0 k9
        obtain ⟨p0, p1⟩ := P3.out _ rfl
        obtain ⟨f, hf⟩ : ∃ f, findI T y = f := ⟨_, rfl⟩
        go_wp2_with fail
        refine (l2Find_any T a c y _ HV.out k0 k9 (by exact Sr.reads 2 rfl)).mono ?_
        rw [hf]
        rintro e w5 ⟨rfl, hb⟩
        have S5 := Sr.below hb
        have z5 := hb.size
        have HN5 := Lib.hid (HN.out.below hb)
        clear Sr HN hb x0 x1 x2 x3 x4 x5 xz q
        by_cases hf0 : f < 0
        · have d : decide (f < 0) = true := decide_eq_true hf0
          have HS : Hid (lostTo T ss (j + 1) = lostTo T ss j ++ [y]) := Lib.hid (lostTo_yes (by rw [hn]; exact hlt) Y.out (by rw [hf]; exact hf0))
          have hown := S5.rows 0 rfl
          have FR := fun v => (show Far (It.row (w.heap.size + 1) hi' v (lostTo T ss j)) [It.box w.heap.size #[.int .i64 T.t, .int .i64 T.p, .slice a T.zs.length c] 25, It.read w.heap.size a T.zs] from ⟨.inl (Nat.le_refl _), .inl (Nat.le_succ _), trivial⟩)
          go_wp2_with (at_builtin; refine wpList_append_own_at _ rfl _ _ 23 rfl (w.heap.size + 1) 3 i0 (.int .i64 0) 1 8 Tryz.underlying23 HI.out HZ0.out HZ1.out HZ2.out rfl (by decide) _ _ _ rfl (hown.alloc _) ⟨w5.heap.size, 0, none⟩ 1 1 [.int .i64 y] rfl rfl (cell_one_new _ _ _) (by simp [Value.oneCell']) (by unfold maxLen; omega) (by omega) (by simp; omega) ?_)
          intro v' w6 hown6 hgrow6 _ hat6
          obtain ⟨g', cap', rfl⟩ := ownsRow_more hown6
          have S6 := S5.append (x := y) (FR _) (Nat.le_succ _) _ hown6 hgrow6
          rw [← HS.out] at S6
          have z6 : w5.heap.size + 1 ≤ w6.heap.size := by have := hgrow6.size; simpa using this
          have HN6 : Hid (IntsAt w6 (some ⟨b2, o2, none⟩) ss) := Lib.hid ((HN5.out.below ((Below.refl _ _).alloc (Nat.le_refl _) _)).grown hgrow6 (fun _ e => by
            rcases HB.out b2 e.symm with h | h <;> omega))
          have HB6 : Hid (∀ g, (Value.slice (some ⟨g', 0, none⟩) ((lostTo T ss j).length + 1) cap').ownBlock = some g → g = w.heap.size + 1 ∨ w2.heap.size ≤ g) := Lib.hid (fun g hg => by
            rcases hat6 with h | h
            · exact HB.out g (by rw [← h]; exact hg)
            · rw [hg] at h
              have : g = _ := Option.some.inj h
              right; rw [this]; first | omega | (simp; omega))
          clear hown6 hgrow6 hat6 hown FR S5 HN5
          go_wp2
          go_roundw
          case rel => exact ⟨j + 1, _, w6.heap.size, by omega, by go_num, rfl, HB6, by omega, HN6, S6⟩
          case measure => simp [intOf]; omega
        · have d : decide (f < 0) = false := decide_eq_false hf0
          have HS : Hid (lostTo T ss (j + 1) = lostTo T ss j) := Lib.hid (lostTo_no (by rw [hn]; exact hlt) Y.out (by rw [hf]; exact hf0))
          rw [← HS.out] at S5
          go_wp2
          go_roundw
          case rel => exact ⟨j + 1, _, hi', by omega, by go_num, rfl, HB, by omega, HN5, S5⟩
          case measure => simp [intOf]; omega
      · obtain rfl : j = n := by omega
        obtain ⟨a5, c5, rfl⟩ := ownsRow_slice (Sr.rows 0 rfl)
        have O5 := Lib.hid (rowInts (Sr.rows 0 rfl))
        rw [HA.out] at O5 Sr
        rw [HA.out]
        go_wp2
        go_ret2
        exact ⟨a5, c5, rfl, O5.out.mono (Nat.le_succ _), Sr.old⟩

theorem zero_int (n : Nat) : ((n : Int) == 0) = decide (n = 0) := by
  by_cases h : n = 0 <;> simp [h]
theorem soundB_no {T : Tab} (h : validB T = false) : soundB T = false := by simp [soundB, h]
theorem soundB_yes {T : Tab} (h : validB T = true) : soundB T = decide ((lostOf T).length = 0) := by simp [soundB, h]

set_option maxHeartbeats 1000000 in
theorem specIsSound_any (T : Tab) (a : Option Addr) (c : Nat) (w : World) (hx : T.zs.length ≤ 9223372036854775807) (h1 : IntsAt w a T.zs) :
    Calls Tryz.prog 88 #[tabV T a c] w fun e w' => e = .returned (.bool (soundB T)) ∧ Below w.heap.size w w' := by
  have S0 := ((St.start w).read h1).alloc #[.int .i64 T.t, .int .i64 T.p, .slice a T.zs.length c] 25
  obtain ⟨n, hn⟩ : ∃ n, (lostOf T).length = n := ⟨_, rfl⟩
  go_enter Tryz.func88, Tryz.ntmps88
  go_wp2_with fail
  refine (specLostKeys_any T a c _ hx (by exact S0.reads 1 rfl)).mono ?_
  rw [hn]
  rintro e w1 ⟨a2, c2, rfl, ho, hb⟩
  have S1 := S0.below hb
  cases hv : validB T
  · have R : Hid (soundB T = false) := Lib.hid (soundB_no hv)
    go_wp2
    go_ret
    exact ⟨by rw [R.out]; rfl, S1.old⟩
  · have R : Hid (soundB T = decide (n = 0)) := Lib.hid (by rw [soundB_yes hv, hn])
    go_wp2
    go_ret
    exact ⟨by rw [R.out]; simp; exact zero_int n, S1.old⟩

end Go.Proofs.YtkdkdmjhhgllgaaGreatDoor
end

section
namespace Go.Proofs.YtkdkdmjhhgllgaaGreatDoor
open Go.RowKit

theorem firstLow_hit {zs way : List Int} {k : Nat} {v : Int} (hk : k < way.length) (hf : ∀ i, i < k → ¬ nth zs (nth way i).toNat < 0) (hv : nth way k = v) (h : nth zs v.toNat < 0) : firstLow zs way = v := by
  induction way generalizing k with
  | nil => simp at hk
  | cons x way ih =>
    unfold firstLow
    cases k with
    | zero =>
      have : x = v := by simpa [nth] using hv
      subst this
      rw [List.find?_cons_of_pos (by simpa using h)]
      rfl
    | succ k =>
      have h0 := hf 0 (Nat.succ_pos k)
      rw [List.find?_cons_of_neg (by simpa [nth] using h0)]
      exact ih (k := k) (by simpa using hk) (fun i hi => by simpa [nth] using hf (i + 1) (by omega)) (by simpa [nth] using hv)

theorem firstLow_none {zs way : List Int} (hf : ∀ i, i < way.length → ¬ nth zs (nth way i).toNat < 0) : firstLow zs way = -1 := by
  induction way with
  | nil => rfl
  | cons x way ih =>
    unfold firstLow
    have h0 := hf 0 (by simp)
    rw [List.find?_cons_of_neg (by simpa [nth] using h0)]
    exact ih (fun i hi => by simpa [nth] using hf (i + 1) (by simp; omega))

theorem way_nth (T : Tab) (hv : validB T = true) (key : Int) {j : Nat} (hj : j < (wayOf T key).length) : ∃ k : Nat, nth (wayOf T key) j = (k : Int) ∧ k < T.zs.length := by
  obtain ⟨⟨l1, _⟩, _⟩ := valid_facts hv
  rw [wayOf, wayTo_len] at hj
  exact ⟨_, wayTo_nth hj, stepS_lt l1 _ _⟩

theorem placeI_no {T : Tab} {key : Int} (h : (validB T && inB key 0 99) = false ∨ 0 ≤ findI T key) : placeI T key = -1 := by
  unfold placeI
  rcases h with h | h
  · simp [h]
  · simp only [show ¬ findI T key < 0 by omega, decide_false, Bool.and_false]; rfl

theorem placeI_yes {T : Tab} {key : Int} (h : (validB T && inB key 0 99) = true) (h2 : findI T key < 0) : placeI T key = firstLow T.zs (wayOf T key) := by
  unfold placeI
  simp [h, h2]

set_option maxHeartbeats 2000000 in
theorem specPlaceFor_any (T : Tab) (a : Option Addr) (c : Nat) (key : Int) (w : World) (hx : T.zs.length ≤ 9223372036854775807) (h1 : IntsAt w a T.zs) :
    Calls Tryz.prog 77 #[tabV T a c, .int .i64 key] w fun e w' => e = .returned (.tuple #[.int .i64 (placeI T key), .bool (decide (0 ≤ placeI T key))]) ∧ Below w.heap.size w w' := by
  have S0 := ((St.start w).read h1).alloc #[.int .i64 T.t, .int .i64 T.p, .slice a T.zs.length c] 25
  cases hv : (validB T && inB key 0 99)
  · have R : Hid (placeI T key = -1) := Lib.hid (placeI_no (.inl hv))
    go_enter Tryz.func77, Tryz.ntmps77
    go_wp2_with fail
    refine (l2Asked_any T a c key _ hx (by exact S0.reads 1 rfl)).mono ?_
    rw [hv]
    rintro e w1 ⟨rfl, hb⟩
    have S1 := S0.below hb
    go_wp2
    go_ret2
    exact ⟨by rw [R.out]; rfl, S1.old⟩
  · obtain ⟨v1, k0, k9⟩ := asked_yes hv
    obtain ⟨⟨l1, l2⟩, _⟩ := valid_facts v1
    have HV := Lib.hid hv
    clear hv
    obtain ⟨fi, hfi⟩ : ∃ f, findI T key = f := ⟨_, rfl⟩
    by_cases hf : 0 ≤ fi
    · have R : Hid (placeI T key = -1) := Lib.hid (placeI_no (.inr (by rw [hfi]; exact hf)))
      go_enter Tryz.func77, Tryz.ntmps77
      go_wp2_with fail
      refine (l2Asked_any T a c key _ hx (by exact S0.reads 1 rfl)).mono ?_
      rw [HV.out]
      rintro e w1 ⟨rfl, hb⟩
      have S1 := S0.below hb
      clear S0 hb
      obtain ⟨x0, x1, x2, x3, x4, x5, xz⟩ := facts3 (S1.cells 0 rfl)
      go_wp2_with fail
      refine (l2Find_any T a c key _ v1 k0 k9 (by exact S1.reads 1 rfl)).mono ?_
      rw [hfi]
      rintro e w2 ⟨rfl, hb⟩
      have S2 := S1.below hb
      go_wp2
      go_ret2
      exact ⟨by rw [R.out]; rfl, S2.old⟩
    · have PY : Hid (placeI T key = firstLow T.zs (wayOf T key)) := Lib.hid (placeI_yes HV.out (by rw [hfi]; omega))
      obtain ⟨n, hn⟩ : ∃ n, (wayOf T key).length = n := ⟨_, rfl⟩
      have hn16 : n ≤ 16 := by
        have := (visN_bounds l1 key (homeN T key)).2
        rw [← hn, wayOf, wayTo_len]
        omega
      go_enter Tryz.func77, Tryz.ntmps77
      go_wp2_with fail
      refine (l2Asked_any T a c key _ hx (by exact S0.reads 1 rfl)).mono ?_
      rw [HV.out]
      rintro e w1 ⟨rfl, hb⟩
      have S1 := S0.below hb
      clear S0 hb
      obtain ⟨x0, x1, x2, x3, x4, x5, xz⟩ := facts3 (S1.cells 0 rfl)
      go_wp2_with fail
      refine (l2Find_any T a c key _ v1 k0 k9 (by exact S1.reads 1 rfl)).mono ?_
      rw [hfi]
      rintro e w2 ⟨rfl, hb⟩
      have S2 := S1.below hb
      clear S1 hb x0 x1 x2 x3 x4 x5 xz
      obtain ⟨x0, x1, x2, x3, x4, x5, xz⟩ := facts3 (S2.cells 0 rfl)
      go_wp2_with fail
      refine (l2Way_any T a c key _ v1 k0 k9 (by exact S2.reads 1 rfl)).mono ?_
      rw [hn]
      rintro e w3 ⟨g, c', rfl, ho, hb⟩
      have S3 := S2.below hb
      clear S2 hb x0 x1 x2 x3 x4 x5 xz
      obtain ⟨x0, x1, x2, x3, x4, x5, xz⟩ := facts3 (S3.cells 0 rfl)
      have OI := Lib.hid ho.ints
      have OT := Lib.hid (S3.reads 1 rfl)
      have OB := Lib.hid S3.old
      clear ho S3
      go_wp2_with fail
      go_loopw [22] (fun i wr => ∃ j : Nat, j ≤ n ∧ i = .int .i64 j ∧ w3 = wr ∧ Hid (∀ k, k < j → ¬ nth T.zs (nth (wayOf T key) k).toNat < 0)) (fun i _ => n - (intOf i).toNat)
      case atStart => exact ⟨0, Nat.zero_le _, rfl, rfl, Lib.hid (fun k hk => by omega)⟩
      case round =>
        obtain ⟨j, hj, rfl, rfl, HF⟩ := hrel
        by_cases hlt : j < n
        · obtain ⟨k, hk, hkl⟩ := way_nth T v1 key (by rw [hn]; exact hlt)
          obtain ⟨b2, o2, y2, e2, q2, Y2⟩ := OI.out.at (k := j) (by rw [hn]; exact hlt)
          cases e2
          have hy2 : y2 = (k : Int) := Y2.out.symm.trans hk
          subst hy2
          rw [Nat.zero_add] at q2
          obtain ⟨b, o, y, ea, q, Y⟩ := OT.out.at hkl
          subst ea
          by_cases hy : y < 0
          · have R : Hid (placeI T key = (k : Int)) := Lib.hid (by rw [PY.out]; exact firstLow_hit (by rw [hn]; exact hlt) HF.out hk (by rw [Int.toNat_natCast, Y.out]; exact hy))
            clear hk
            go_wp2
            go_ret2
            exact ⟨by rw [R.out]; simp, OB.out⟩
          · have HF2 : Hid (∀ i, i < j + 1 → ¬ nth T.zs (nth (wayOf T key) i).toNat < 0) := Lib.hid (fun i hi => by
              rcases Nat.lt_succ_iff_lt_or_eq.1 hi with h | rfl
              · exact HF.out i h
              · rw [hk, Int.toNat_natCast, Y.out]; exact hy)
            clear hk
            go_wp2
            go_roundw
            case rel => exact ⟨j + 1, by omega, by go_num, trivial, HF2⟩
            case measure => simp [intOf]; omega
        · have R : Hid (placeI T key = -1) := Lib.hid (by rw [PY.out]; exact firstLow_none (fun i hi => HF.out i (by rw [hn] at hi; omega)))
          go_wp2
          go_ret2
          exact ⟨by rw [R.out]; rfl, OB.out⟩

end Go.Proofs.YtkdkdmjhhgllgaaGreatDoor
end

section
namespace Go.Proofs.YtkdkdmjhhgllgaaGreatDoor
open Go.RowKit
/-- The cells of runs. -/
def cellsR (rs : List (Nat × Nat)) : List Value := (rs.map fun r => [Value.int .i64 r.1, Value.int .i64 r.2]).flatten
theorem cellsR_snoc (rs : List (Nat × Nat)) (x y : Nat) : cellsR (rs ++ [(x, y)]) = cellsR rs ++ [Value.int .i64 x, Value.int .i64 y] := by simp [cellsR]

theorem cell_two_new (w : World) (x y : Value) (t : TypeId) : ∀ j u, [x, y][j]? = some u → (w.alloc (.cells #[x, y] t)).cell? ((⟨w.heap.size, 0, none⟩ : Addr).add j) = some u := by
  intro j u hj
  match j, hj with
  | 0, hj =>
    simp at hj
    subst hj
    rw [show (⟨w.heap.size, 0, none⟩ : Addr).add 0 = ⟨w.heap.size, 0, none⟩ by simp [Addr.add], World.cell?_alloc_at _ _ _ _ rfl]
    rfl
  | 1, hj =>
    simp at hj
    subst hj
    rw [show (⟨w.heap.size, 0, none⟩ : Addr).add 1 = ⟨w.heap.size, 1, none⟩ by simp [Addr.add], World.cell?_alloc_at _ _ _ _ rfl]
    rfl

/-- A step that writes a block that no item knows of. -/
theorem St.grown2 {w0 w w' : World} {l : List It} {row : Option Nat} (h : St w0 w l) (hg : w.grownBy w' row) (hr : ∀ k, row = some k → w0.heap.size ≤ k ∧ ∀ i ∈ l, k < i.lo ∨ i.hi ≤ k) : St w0 w' l :=
  ⟨h.old.trans (grownBy_below hg h.old.size (fun k e => (hr k e).1)), fun j hj => by
    have hj' := h.all j hj
    refine ⟨Nat.le_trans hj'.1 hg.size, j.loc w w' hj'.1 hg.size (fun k h1 h2 => hg.block k (by omega) (fun e => ?_)) hj'.2⟩
    have := (hr k e.symm).2 j hj
    omega⟩

theorem St.drewN {w0 w : World} {l : List It} (h : St w0 w l) (n : Nat) : St w0 (w.drewN n) l := h.below (below_drewN (Below.refl _ _) n)
theorem ownsRow_drewN {w : World} {base : Nat} {e : TypeId} {size : Nat} {v : Value} {n : Nat} {xs : List Value} (h : w.ownsRow base e size v n xs) (q : Nat) : (w.drewN q).ownsRow base e size v n xs := h

end Go.Proofs.YtkdkdmjhhgllgaaGreatDoor
end

section
namespace Go.Proofs.YtkdkdmjhhgllgaaGreatDoor
open Go.RowKit

/-- RunsOf of the document. -/
def runsOf (T : Tab) : List (Nat × Nat) := if validB T then runsL T else []

theorem ownsRow_base {w : World} {base base' : Nat} {e : TypeId} {size : Nat} {v : Value} {n : Nat} {xs : List Value} (h : w.ownsRow base e size v n xs) (hb : base' ≤ base) : w.ownsRow base' e size v n xs := by
  refine ⟨h.1, ?_⟩
  rcases h.2 with h2 | ⟨g, cap, cur, hv, hg, rest⟩
  · exact .inl h2
  · exact .inr ⟨g, cap, cur, hv, Nat.le_trans hb hg, rest⟩

end Go.Proofs.YtkdkdmjhhgllgaaGreatDoor
end

section
namespace Go.Proofs.YtkdkdmjhhgllgaaGreatDoor
open Go.RowKit

theorem cellsR_at {rs : List (Nat × Nat)} {j : Nat} {x y : Nat} (h : rs[j]? = some (x, y)) : (cellsR rs)[j * 2]? = some (.int .i64 x) ∧ (cellsR rs)[j * 2 + 1]? = some (.int .i64 y) := by
  induction rs generalizing j with
  | nil => simp at h
  | cons r rs ih =>
    have e : cellsR (r :: rs) = .int .i64 r.1 :: .int .i64 r.2 :: cellsR rs := by simp [cellsR]
    rw [e]
    cases j with
    | zero => simp at h; subst h; simp
    | succ j =>
      have h2 := ih (j := j) (by simpa using h)
      rw [show (j + 1) * 2 = j * 2 + 1 + 1 by omega]
      simpa using h2

theorem runs_at {w : World} {base : Nat} {e : TypeId} {a : Option Addr} {n c : Nat} {rs : List (Nat × Nat)} (h : w.ownsRow base e 2 (.slice a n c) n (cellsR rs)) {j x y : Nat} (hj : j < n) (hx : rs[j]? = some (x, y)) :
    ∃ g, a = some ⟨g, 0, none⟩ ∧ w.cell? ⟨g, j * 2, none⟩ = some (.int .i64 x) ∧ w.cell? ⟨g, j * 2 + 1, none⟩ = some (.int .i64 y) := by
  rcases h.2 with ⟨hv, h0⟩ | ⟨g, cap, cur, hv, hg, hh, _, _, _, ht⟩
  · omega
  · cases hv
    obtain ⟨c1, c2⟩ := cellsR_at hx
    have key : ∀ (i : Nat) (v : Value), i < n * 2 → (cellsR rs)[i]? = some v → cur[i]? = some v := by
      intro i v hi hv
      have h1 : (cur.toList.take (n * 2))[i]? = (cellsR rs)[i]? := by rw [ht]
      rw [List.getElem?_take, if_pos hi, hv] at h1
      simpa using h1
    exact ⟨g, rfl, by simp [World.cell?, hh, key _ _ (by omega) c1], by simp [World.cell?, hh, key _ _ (by omega) c2]⟩

/-- RunAt of the document. -/
def runAt (T : Tab) (slot : Int) : Option (Nat × Nat) := if validB T && inB slot 0 (T.zs.length - 1) then (runsL T).find? (fun r => decide ((slot - (r.1 : Int)) % T.zs.length < (r.2 : Int))) else none

theorem runs_lt {T : Tab} (hn : 1 ≤ T.zs.length) {r : Nat × Nat} (h : r ∈ runsL T) : r.1 < T.zs.length ∧ r.2 ≤ T.zs.length := by
  unfold runsL at h
  split at h
  · simp at h; subst h; exact ⟨by show 0 < _; omega, Nat.le_refl _⟩
  · unfold runsTo at h
    obtain ⟨i, hi, rfl⟩ := List.mem_map.1 h
    have := (List.mem_filter.1 hi).1
    exact ⟨by simpa using this, goN_le _ _⟩

theorem runs_len {T : Tab} (hn : 1 ≤ T.zs.length) : (runsL T).length ≤ T.zs.length := by
  unfold runsL
  split
  · simpa using hn
  · exact runsTo_len _ _

theorem find_hit {α : Type} {p : α → Bool} {l : List α} {j : Nat} {x : α} (hf : ∀ i y, i < j → l[i]? = some y → p y = false) (hx : l[j]? = some x) (hp : p x = true) : l.find? p = some x := by
  induction l generalizing j with
  | nil => simp at hx
  | cons z l ih =>
    cases j with
    | zero => simp at hx; subst hx; simp [hp]
    | succ j =>
      have h0 := hf 0 z (Nat.succ_pos j) rfl
      rw [List.find?_cons_of_neg (by simp [h0])]
      exact ih (j := j) (fun i y hi hy => hf (i + 1) y (by omega) (by simpa using hy)) (by simpa using hx)

theorem find_miss {α : Type} {p : α → Bool} {l : List α} (hf : ∀ i y, i < l.length → l[i]? = some y → p y = false) : l.find? p = none := by
  rw [List.find?_eq_none]
  intro x hx
  obtain ⟨i, hi⟩ := List.getElem?_of_mem hx
  simp [hf i x (List.getElem?_eq_some_iff.1 hi).1 hi]

theorem ownsRow_below {w w' : World} {base : Nat} {e : TypeId} {size : Nat} {v : Value} {n : Nat} {xs : List Value} (h : w.ownsRow base e size v n xs) (hb : Below w.heap.size w w') : w'.ownsRow base e size v n xs := by
  refine ⟨h.1, ?_⟩
  rcases h.2 with h2 | ⟨g, cap, cur, hv, hg, hh, rest⟩
  · exact .inl h2
  · exact .inr ⟨g, cap, cur, hv, hg, (hb.block g (Array.getElem?_eq_some_iff.1 hh).1).trans hh, rest⟩

/-- What RunAt answers. -/
def runV (o : Option (Nat × Nat)) : Value := .tuple #[.agg #[.int .i64 (o.getD (0, 0)).1, .int .i64 (o.getD (0, 0)).2], .bool o.isSome]

end Go.Proofs.YtkdkdmjhhgllgaaGreatDoor
end

/-
  ShiftAll, of the program and of the model.
-/
import Derived.Test.YtalehninmdcoeaaGreatDoorMath
import Derived.Test.YtalehninmdcoeaaGreatDoorShiftS
import Derived.Test.YtalehninmdcoeaaGreatDoorAreKeys
namespace Go.Proofs.YtalehninmdcoeaaGreatDoor
open Go.RowKit

theorem shiftsT_len (T : Tab) (ks : List Int) : (shiftsT T ks).zs.length ≤ 16 := by
  unfold shiftsT
  split
  · rename_i h
    have h1 := (shiftsTo_left h ks.length (Nat.le_refl _)).len
    have hv : validB T = true := by
      simp only [shiftsOk, Bool.and_eq_true] at h
      exact (plain_parts h.1).2.1
    have h2 := (valid_facts hv).1.2
    show (shiftsTo T ks ks.length).length ≤ 16
    omega
  · simp
theorem shiftsRes_no {T : Tab} {ks : List Int} {w w' : World} (h : shiftsOk T ks = false) (hb : Below w.heap.size w w') : TabRes (shiftsT T ks) (shiftsOk T ks) w (.returned (.tuple #[tbl 0 0 none 0 0, .bool false])) w' := by
  have e : shiftsT T ks = ⟨0, 0, []⟩ := by simp [shiftsT, h]
  rw [h, e]
  exact ⟨none, 0, rfl, OwnInts.nil _ _, hb⟩
theorem tabV_tab {T : Tab} {zs : List Int} (hl : zs.length = T.zs.length) (a : Option Addr) (c : Nat) : tabV (tab T zs) a c = .agg #[.int .i64 T.t, .int .i64 T.p, .slice a T.zs.length c] := by
  show Value.agg #[_, _, .slice _ zs.length c] = _
  rw [hl]; rfl

set_option maxHeartbeats 4000000 in
theorem ShiftAll_any (T : Tab) (a : Option Addr) (c : Nat) (ks : List Int) (ak : Option Addr) (ck : Nat) (w : World) (hx : T.zs.length ≤ 9223372036854775807) (hl : ks.length ≤ 1048576) (h1 : IntsAt w a T.zs) (h2 : IntsAt w ak ks) (hL : Laid w) :
    Calls Tryz.prog 41 #[tabV T a c, .slice ak ks.length ck] w (TabRes (shiftsT T ks) (shiftsOk T ks) w) := by
  have S0 := ((((St.start w).read h2).read h1).alloc #[.int .i64 T.t, .int .i64 T.p, .slice a T.zs.length c] 25).alloc #[.int .i64 0, .int .i64 0, .slice none 0 0] 25
  rw [World.size_alloc] at S0
  cases hs : plainB T
  · have E : Hid (shiftsOk T ks = false) := Lib.hid (by simp [shiftsOk, hs])
    go_enter Tryz.func41, Tryz.ntmps41
    go_wp2_with fail
    refine (isPlain_any T a c _ hx (by exact S0.reads 2 rfl)).mono ?_
    rw [hs]
    rintro e w2 ⟨rfl, hb⟩
    have S2 := S0.below hb
    clear S0 hb
    obtain ⟨x0, x1, x2, x3, x4, x5, xz⟩ := facts3 (S2.cells 0 rfl)
    go_wp2
    refine bodyPost_ret (v := .tuple #[tbl 0 0 none 0 0, .bool false]) (by simp [results, Tryz.results41, go_sem, x0, x1, x2, x3, x4, x5]) rfl (shiftsRes_no E.out ?_)
    exact set3 S2.old (by omega) _ _ _
  · have hn := (valid_facts (plain_parts hs).2.1).1
    cases hk : keysB ks
    · have E : Hid (shiftsOk T ks = false) := Lib.hid (by simp [shiftsOk, hk])
      go_enter Tryz.func41, Tryz.ntmps41
      go_wp2_with fail
      refine (isPlain_any T a c _ hx (by exact S0.reads 2 rfl)).mono ?_
      rw [hs]
      rintro e w2 ⟨rfl, hb⟩
      have S2 := S0.below hb
      clear S0 hb
      go_wp2_with fail
      refine (areKeys_any ks ak ck _ (by omega) (by exact S2.reads 3 rfl)).mono ?_
      rw [hk]
      rintro e w3 ⟨rfl, rfl⟩
      obtain ⟨x0, x1, x2, x3, x4, x5, xz⟩ := facts3 (S2.cells 0 rfl)
      go_wp2
      refine bodyPost_ret (v := .tuple #[tbl 0 0 none 0 0, .bool false]) (by simp [results, Tryz.results41, go_sem, x0, x1, x2, x3, x4, x5]) rfl (shiftsRes_no E.out ?_)
      exact set3 S2.old (by omega) _ _ _
    · have hok : shiftsOk T ks = true := by simp [shiftsOk, hs, hk]
      have E : Hid (shiftsOk T ks = true ∧ shiftsT T ks = tab T (shiftsTo T ks ks.length)) := Lib.hid ⟨hok, by unfold shiftsT; rw [if_pos hok]⟩
      have KP : Hid (∀ j, j < ks.length → 0 ≤ nth ks j ∧ nth ks j ≤ 99) := Lib.hid fun j hj => keysB_nth hk hj
      have HL := Lib.hid (shiftsTo_left hok)
      obtain ⟨b, o, rfl, hc⟩ := h1 (by omega)
      clear hok
      go_enter Tryz.func41, Tryz.ntmps41
      go_wp2_with fail
      refine (isPlain_any T _ c _ hx (by exact S0.reads 2 rfl)).mono ?_
      rw [hs]
      rintro e w2 ⟨rfl, hb⟩
      have S2 := S0.below hb
      clear S0 hb
      have z2 : w.heap.size + 1 < w2.heap.size := S2.sz 0 rfl
      go_wp2_with fail
      refine (areKeys_any ks ak ck _ (by omega) (by exact S2.reads 3 rfl)).mono ?_
      rw [hk]
      rintro e w3 ⟨rfl, rfl⟩
      obtain ⟨x0, x1, x2, x3, x4, x5, xz⟩ := facts3 (S2.cells 1 rfl)
      go_wp2_with fail
      refine (Tryz.slices_Clone_int b o T.zs.length c T.zs _ (Nat.le_refl _) (by omega) (fun j hj => ?_)).mono ?_
      · obtain ⟨b', o', e, hc'⟩ := (S2.reads 2 rfl) (by omega)
        cases e
        exact hc' j hj
      rintro e w4 ⟨v', rfl, hown, _, hb⟩
      obtain ⟨g, c', rfl⟩ := ownsRow_pos hown (by omega)
      rw [List.take_length] at hown
      have z4 := hb.size
      have S4 := (S2.below hb).own (ownsRow_ints hown)
      clear hown hb S2 hc h1 x0 x1 x2 x3 x4 x5 xz
      obtain ⟨x0, x1, x2, x3, x4, x5, xz⟩ := facts3 (S4.cells 2 rfl)
      have S5 := S4.setBoxAt 2 rfl 2 (.slice (some ⟨g, 0, none⟩) T.zs.length c') (c' := #[.int .i64 T.t, .int .i64 T.p, .slice (some ⟨g, 0, none⟩) T.zs.length c']) (by have := setCell_inRow (S4.cells 2 rfl) 2 (.slice (some ⟨g, 0, none⟩) T.zs.length c'); simpa using this) (by simp [Far, It.box, It.own, It.read] <;> omega) (by omega)
      have S6 := S5.turn (l' := [It.box w.heap.size #[.int .i64 T.t, .int .i64 T.p, .slice (some ⟨g, 0, none⟩) T.zs.length c'] 25, It.own w3.heap.size w4.heap.size (some ⟨g, 0, none⟩) T.zs, It.box (w.heap.size + 1) #[.int .i64 0, .int .i64 0, .slice none 0 0] 25, It.read w.heap.size ak ks]) fun i hi => by
        simp only [List.mem_cons, List.not_mem_nil, or_false] at hi ⊢
        rcases hi with h | h | h | h <;> subst h <;> simp
      go_wp2_with fail
      clear x0 x1 x2 x3 x4 x5 xz S4 S5
      have hz5 : w3.heap.size ≤ (w4.setCell ⟨w.heap.size, 2, none⟩ (.slice (some ⟨g, 0, none⟩) T.zs.length c')).heap.size := by simp [World.setCell]; omega
      generalize w4.setCell ⟨w.heap.size, 2, none⟩ (.slice (some ⟨g, 0, none⟩) T.zs.length c') = w5 at S6 hz5 ⊢
      go_loopw [7, 8, 9, 25] (fun _ _ _ i wr => ∃ (k hi' : Nat) (aj : Option Addr) (cj : Nat), k ≤ ks.length ∧ i = .int .i64 k ∧ w3.heap.size ≤ wr.heap.size ∧ St w wr [It.box w.heap.size #[.int .i64 T.t, .int .i64 T.p, .slice aj T.zs.length cj] 25, It.own w3.heap.size hi' aj (shiftsTo T ks k), It.box (w.heap.size + 1) #[.int .i64 0, .int .i64 0, .slice none 0 0] 25, It.read w.heap.size ak ks]) (fun _ _ _ i _ => ks.length - (intOf i).toNat)
      case atStart => exact ⟨0, _, _, _, Nat.zero_le _, rfl, hz5, S6⟩
      case round =>
        obtain ⟨k, hi', aj, cj, hkk, rfl, hzr, Sr⟩ := hrel
        clear S6
        obtain ⟨x0, x1, x2, x3, x4, x5, xz⟩ := facts3 (Sr.cells 0 rfl)
        have L5 := hL.below Sr.old hL.pos
        by_cases hlt : k < ks.length
        · have k0 : (0 : Int) ≤ (k : Int) := by omega
          have k1 : (k : Int) < (ks.length : Int) := by omega
          obtain ⟨bk, ok, x, rfl, q, X⟩ := (Sr.reads 3 rfl).at hlt
          have hxb := KP.out k hlt
          rw [X.out] at hxb
          have hLk := HL.out k hkk
          have hS1 : Hid (shiftsTo T ks (k + 1) = stepZ T (shiftsTo T ks k) x) := Lib.hid (by show stepZ T _ (nth ks k) = _; rw [X.out])
          have HST := step_says hLk hxb.1 hxb.2
          have HD : Hid (Calls Tryz.prog 30 #[.agg #[.int .i64 T.t, .int .i64 T.p, .slice aj T.zs.length cj], .int .i64 x] wr (TabRes (shiftT (tab T (shiftsTo T ks k)) x) (shiftOk (tab T (shiftsTo T ks k)) x) wr)) := Lib.hid (by
            have h := DropShift_any (tab T (shiftsTo T ks k)) aj cj x wr (by show (shiftsTo T ks k).length ≤ _; rw [hLk.len]; exact hx) (Sr.ints 1 rfl) L5
            rw [tabV_tab hLk.len] at h
            exact h)
          have HLN := Lib.hid hLk.len
          have HLN2 := Lib.hid (HL.out (k + 1) hlt).len
          rw [hS1.out] at HLN2
          clear L5 hLk
          generalize hzj : shiftsTo T ks k = zs at Sr HST HD hS1 HLN HLN2
          have zr : w3.heap.size ≤ wr.heap.size := by
            exact hzr
          rcases HST with ⟨m, Y⟩ | ⟨_, hno, hst⟩
          · have hU := Y.res
            rw [Y.ok, hU] at HD
            have ZL := Lib.hid HLN2
            clear Y hU
            generalize stepZ T zs x = zt at HD hS1 ZL HLN2
            have HD2 : Hid (Calls Tryz.prog 30 #[.agg #[.int .i64 T.t, .int .i64 T.p, .slice aj T.zs.length cj], .int .i64 x] wr fun e w' => ∃ a1 c1, e = .returned (.tuple #[.agg #[.int .i64 T.t, .int .i64 T.p, .slice a1 T.zs.length c1], .bool true]) ∧ OwnInts w' wr.heap.size a1 zt ∧ Below wr.heap.size wr w') := Lib.hid (HD.out.mono (by
              rintro e w' ⟨a1, c1, rfl, ho, hb⟩
              refine ⟨a1, c1, ?_, ho, hb⟩
              show Ending.returned (.tuple #[.agg #[.int .i64 T.t, .int .i64 T.p, .slice a1 zt.length c1], .bool true]) = _
              rw [ZL.out]))
            go_wp2_with fail
            clear x0 x1 x2 x3 x4 x5 xz q
            refine HD2.out.mono ?_
            rintro e w6 ⟨a6, c6, rfl, ho, hb⟩
            have S6 := ((Sr.below hb).add (It.own w3.heap.size w6.heap.size a6 zt) (Nat.le_refl _) ⟨ho.mono zr, fun p hp => (ho.1 p hp).2⟩).alloc #[.int .i64 T.t, .int .i64 T.p, .slice a6 T.zs.length c6] 25
            have z6 := hb.size
            clear Sr hb ho HD HD2
            obtain ⟨x0, x1, x2, x3, x4, x5, xz⟩ := facts3 (S6.cells 2 rfl)
            obtain ⟨y0, y1, y2, y3, y4, y5, yz⟩ := facts3 (S6.cells 0 rfl)
            have S7 := (S6.turn (l' := [It.box w.heap.size #[.int .i64 T.t, .int .i64 T.p, .slice aj T.zs.length cj] 25, It.own w3.heap.size w6.heap.size a6 zt, It.box (w.heap.size + 1) #[.int .i64 0, .int .i64 0, .slice none 0 0] 25, It.read w.heap.size (some ⟨bk, ok, none⟩) ks]) fun i hi => by
              simp only [List.mem_cons, List.not_mem_nil, or_false] at hi
              rcases hi with h | h | h | h <;> subst h <;> simp).set3Box 0 rfl (by simp [Far, It.box, It.own, It.read] <;> omega) (Nat.le_refl _) (.int .i64 T.t) (.int .i64 T.p) (.slice a6 T.zs.length c6)
            go_wp2
            go_roundw
            case rel => exact ⟨k + 1, w6.heap.size, a6, c6, by omega, by go_num, by simp [World.setCell]; omega, by rw [hS1.out]; exact S7⟩
            case measure => simp [intOf]; omega
          · rw [hno] at HD
            rw [hst] at hS1
            generalize shiftT (tab T zs) x = U at HD
            go_wp2_with fail
            clear x0 x1 x2 x3 x4 x5 xz q
            refine HD.out.mono ?_
            rintro e w6 ⟨a6, c6, rfl, ho, hb⟩
            have S6 := (Sr.below hb).below ((Below.refl _ _).alloc (Nat.le_refl _) (.cells #[.int .i64 U.t, .int .i64 U.p, .slice a6 U.zs.length c6] 25))
            have z6 := hb.size
            clear Sr hb ho HD
            go_wp2
            go_roundw
            case rel => exact ⟨k + 1, hi', aj, cj, by omega, by go_num, by simp; omega, by rw [hS1.out]; exact S6⟩
            case measure => simp [intOf]; omega
        · obtain rfl : k = ks.length := by omega
          obtain ⟨y0, y1, y2, y3, y4, y5, yz⟩ := facts3 (Sr.cells 2 rfl)
          have HLN := Lib.hid (HL.out _ (Nat.le_refl ks.length)).len
          have S7 := (Sr.turn (l' := [It.own w3.heap.size hi' aj (shiftsTo T ks ks.length)]) fun i hi => by simp at hi; subst hi; simp).set3Far (b := w.heap.size + 1) ⟨.inr (by show w.heap.size + 1 + 1 ≤ w3.heap.size; omega), trivial⟩ (by omega) (.int .i64 T.t) (.int .i64 T.p) (.slice aj T.zs.length cj)
          go_wp2
          refine bodyPost_ret (v := .tuple #[.agg #[.int .i64 T.t, .int .i64 T.p, .slice aj T.zs.length cj], .bool true]) (by simp [results, Tryz.results41, go_sem, x0, x1, x2, y0, y1, y2, y3, y4, y5]) rfl ?_
          rw [E.out.1, E.out.2]
          refine ⟨aj, cj, ?_, (S7.owns 0 rfl).mono (by omega), S7.old⟩
          rw [← tabV_tab HLN.out]

set_option maxHeartbeats 4000000 in
theorem specShiftAll_any (T : Tab) (a : Option Addr) (c : Nat) (ks : List Int) (ak : Option Addr) (ck : Nat) (w : World) (hx : T.zs.length ≤ 9223372036854775807) (hl : ks.length ≤ 1048576) (h1 : IntsAt w a T.zs) (h2 : IntsAt w ak ks) :
    Calls Tryz.prog 42 #[tabV T a c, .slice ak ks.length ck] w (TabRes (shiftsT T ks) (shiftsOk T ks) w) := by
  have S0 := ((((St.start w).read h2).read h1).alloc #[.int .i64 T.t, .int .i64 T.p, .slice a T.zs.length c] 25).alloc #[.int .i64 0, .int .i64 0, .slice none 0 0] 25
  rw [World.size_alloc] at S0
  cases hs : plainB T
  · have E : Hid (shiftsOk T ks = false) := Lib.hid (by simp [shiftsOk, hs])
    go_enter Tryz.func42, Tryz.ntmps42
    go_wp2_with fail
    refine (l5Plain_any T a c _ hx (by exact S0.reads 2 rfl)).mono ?_
    rw [hs]
    rintro e w2 ⟨rfl, hb⟩
    have S2 := S0.below hb
    clear S0 hb
    obtain ⟨x0, x1, x2, x3, x4, x5, xz⟩ := facts3 (S2.cells 0 rfl)
    go_wp2
    refine bodyPost_ret (v := .tuple #[tbl 0 0 none 0 0, .bool false]) (by simp [results, Tryz.results42, go_sem, x0, x1, x2, x3, x4, x5]) rfl (shiftsRes_no E.out ?_)
    exact set3 S2.old (by omega) _ _ _
  · have hv := (plain_parts hs).2.1
    have hn := (valid_facts hv).1
    cases hk : keysB ks
    · have E : Hid (shiftsOk T ks = false) := Lib.hid (by simp [shiftsOk, hk])
      go_enter Tryz.func42, Tryz.ntmps42
      go_wp2_with fail
      refine (l5Plain_any T a c _ hx (by exact S0.reads 2 rfl)).mono ?_
      rw [hs]
      rintro e w2 ⟨rfl, hb⟩
      have S2 := S0.below hb
      clear S0 hb
      go_wp2_with fail
      refine (l3Keys_any ks ak ck _ (by omega) (by exact S2.reads 3 rfl)).mono ?_
      rw [hk]
      rintro e w3 ⟨rfl, rfl⟩
      obtain ⟨x0, x1, x2, x3, x4, x5, xz⟩ := facts3 (S2.cells 0 rfl)
      go_wp2
      refine bodyPost_ret (v := .tuple #[tbl 0 0 none 0 0, .bool false]) (by simp [results, Tryz.results42, go_sem, x0, x1, x2, x3, x4, x5]) rfl (shiftsRes_no E.out ?_)
      exact set3 S2.old (by omega) _ _ _
    · have hok : shiftsOk T ks = true := by simp [shiftsOk, hs, hk]
      have E : Hid (shiftsOk T ks = true ∧ shiftsT T ks = tab T (shiftsTo T ks ks.length)) := Lib.hid ⟨hok, by unfold shiftsT; rw [if_pos hok]⟩
      have KP : Hid (∀ j, j < ks.length → 0 ≤ nth ks j ∧ nth ks j ≤ 99) := Lib.hid fun j hj => keysB_nth hk hj
      have HL := Lib.hid (shiftsTo_left hok)
      clear hok
      go_enter Tryz.func42, Tryz.ntmps42
      go_wp2_with fail
      refine (l5Plain_any T a c _ hx (by exact S0.reads 2 rfl)).mono ?_
      rw [hs]
      rintro e w2 ⟨rfl, hb⟩
      have S2 := S0.below hb
      clear S0 hb
      have z2 : w.heap.size + 1 < w2.heap.size := S2.sz 0 rfl
      go_wp2_with fail
      refine (l3Keys_any ks ak ck _ (by omega) (by exact S2.reads 3 rfl)).mono ?_
      rw [hk]
      rintro e w3 ⟨rfl, rfl⟩
      obtain ⟨x0, x1, x2, x3, x4, x5, xz⟩ := facts3 (S2.cells 1 rfl)
      go_wp2_with fail
      refine (l1Copy_any T a c _ hn.1 (by omega) (by exact S2.reads 2 rfl)).mono ?_
      rintro e w4 ⟨g, c', rfl, ho, hb⟩
      have z4 := hb.size
      have hg := ho.1 _ rfl
      simp only at hg
      have S4 := ((S2.below hb).own ho).alloc #[.int .i64 T.t, .int .i64 T.p, .slice (some ⟨g, 0, none⟩) T.zs.length c'] 25
      have S5 := S4.turn (l' := [It.box w4.heap.size #[.int .i64 T.t, .int .i64 T.p, .slice (some ⟨g, 0, none⟩) T.zs.length c'] 25, It.own w3.heap.size w4.heap.size (some ⟨g, 0, none⟩) T.zs, It.box (w.heap.size + 1) #[.int .i64 0, .int .i64 0, .slice none 0 0] 25, It.read w.heap.size ak ks]) fun i hi => by
        simp only [List.mem_cons, List.not_mem_nil, or_false] at hi ⊢
        rcases hi with h | h | h | h
        · exact .inl h
        · exact .inr (.inl h)
        · exact .inr (.inr (.inl h))
        · exact .inr (.inr (.inr (.inr (.inr h))))
      clear S2 S4 hb ho x0 x1 x2 x3 x4 x5 xz
      go_wp2_with fail
      go_loopw [8, 9, 23] (fun _ _ i wr => ∃ (k lo hi' : Nat) (aj : Option Addr) (cj : Nat), k ≤ ks.length ∧ i = .int .i64 k ∧ w.heap.size + 1 + 1 ≤ lo ∧ (hi' ≤ w4.heap.size ∨ w4.heap.size + 1 ≤ lo) ∧ w4.heap.size + 1 ≤ wr.heap.size ∧ St w wr [It.box w4.heap.size #[.int .i64 T.t, .int .i64 T.p, .slice aj T.zs.length cj] 25, It.own lo hi' aj (shiftsTo T ks k), It.box (w.heap.size + 1) #[.int .i64 0, .int .i64 0, .slice none 0 0] 25, It.read w.heap.size ak ks]) (fun _ _ i _ => ks.length - (intOf i).toNat)
      case atStart => exact ⟨0, _, _, _, _, Nat.zero_le _, rfl, by omega, .inl (Nat.le_refl _), by simp, S5⟩
      case round =>
        obtain ⟨k, lo, hi', aj, cj, hkk, rfl, hlo, hfar, hzr, Sr⟩ := hrel
        clear S5
        obtain ⟨x0, x1, x2, x3, x4, x5, xz⟩ := facts3 (Sr.cells 0 rfl)
        by_cases hlt : k < ks.length
        · have k0 : (0 : Int) ≤ (k : Int) := by omega
          have k1 : (k : Int) < (ks.length : Int) := by omega
          obtain ⟨bk, ok, x, rfl, q, X⟩ := (Sr.reads 3 rfl).at hlt
          have hxb := KP.out k hlt
          rw [X.out] at hxb
          have hLk := HL.out k hkk
          have hS1 : Hid (shiftsTo T ks (k + 1) = stepZ T (shiftsTo T ks k) x) := Lib.hid (by show stepZ T _ (nth ks k) = _; rw [X.out])
          have HST := step_says hLk hxb.1 hxb.2
          have HF : Hid (∀ W, IntsAt W aj (shiftsTo T ks k) → Calls Tryz.prog 93 #[.agg #[.int .i64 T.t, .int .i64 T.p, .slice aj T.zs.length cj], .int .i64 x] W fun e w' => e = .returned (.int .i64 (findI (tab T (shiftsTo T ks k)) x)) ∧ Below W.heap.size W w') := Lib.hid fun W hi => (by
            have h := l2Find_any (tab T (shiftsTo T ks k)) aj cj x W hLk.val hxb.1 hxb.2 hi
            rw [tabV_tab hLk.len] at h
            exact h)
          have HD : Hid (∀ W m, IntsAt W aj (shiftsTo T ks k) → m < T.zs.length → Hole (tab T (shiftsTo T ks k)) ((tab T (shiftsTo T ks k)).zs.set m (-1)) m 1 → Calls Tryz.prog 81 #[.agg #[.int .i64 T.t, .int .i64 T.p, .slice aj T.zs.length cj], .int .i64 m] W fun e w' => ∃ a1 c1 a2 n2 c2, e = .returned (.tuple #[.agg #[.int .i64 T.t, .int .i64 T.p, .slice a1 T.zs.length c1], .slice a2 n2 c2]) ∧ OwnInts w' W.heap.size a1 (shiftZ (tab T (shiftsTo T ks k)) (shiftsTo T ks k) m).2 ∧ Below W.heap.size W w') := Lib.hid fun W m hi hm hH => (by
            have h := l5Drop_any (tab T (shiftsTo T ks k)) aj cj m W (by show m < (shiftsTo T ks k).length; rw [hLk.len]; exact hm) hLk.val hH hi
            rw [tabV_tab hLk.len] at h
            refine h.mono ?_
            rintro e w' ⟨a1, c1, a2, c2, rfl, ho, _, hb⟩
            refine ⟨a1, c1, a2, (shiftZ (tab T (shiftsTo T ks k)) (tab T (shiftsTo T ks k)).zs m).1.length, c2, ?_, ho, hb⟩
            show Ending.returned (.tuple #[.agg #[.int .i64 T.t, .int .i64 T.p, .slice a1 (shiftsTo T ks k).length c1], _]) = _
            rw [hLk.len])
          clear hLk
          generalize hzj : shiftsTo T ks k = zs at Sr HST HD HF hS1
          rcases HST with ⟨m, Y⟩ | ⟨hf, _, hst⟩
          · have hm := Y.lt
            have HE := Lib.hid Y.eq
            have HH := Lib.hid Y.hole
            rw [Y.find] at HF
            clear Y
            have m0 : (0 : Int) ≤ (m : Int) := by omega
            go_wp2_with fail
            clear x0 x1 x2 x3 x4 x5 xz q
            refine (HF.out _ (by exact Sr.ints 1 rfl)).mono ?_
            rintro e w6 ⟨rfl, hb⟩
            have S6 := Sr.below hb
            have z6 := hb.size
            clear Sr hb
            obtain ⟨x0, x1, x2, x3, x4, x5, xz⟩ := facts3 (S6.cells 0 rfl)
            go_wp2_with fail
            refine (HD.out _ m (by exact S6.ints 1 rfl) hm HH.out).mono ?_
            rintro e w7 ⟨a7, c7, a8, n8, c8, rfl, ho, hb⟩
            rw [HE.out] at ho
            have S7 := (S6.below hb).own ho
            have z7 := hb.size
            clear S6 hb ho x0 x1 x2 x3 x4 x5 xz
            obtain ⟨x0, x1, x2, x3, x4, x5, xz⟩ := facts3 (S7.cells 1 rfl)
            have S8 := (S7.turn (l' := [It.box w4.heap.size #[.int .i64 T.t, .int .i64 T.p, .slice aj T.zs.length cj] 25, It.own w6.heap.size w7.heap.size a7 (stepZ T zs x), It.box (w.heap.size + 1) #[.int .i64 0, .int .i64 0, .slice none 0 0] 25, It.read w.heap.size (some ⟨bk, ok, none⟩) ks]) fun i hi => by
              simp only [List.mem_cons, List.not_mem_nil, or_false] at hi
              rcases hi with h | h | h | h <;> subst h <;> simp).set3Box 0 rfl (by simp [Far, It.box, It.own, It.read] <;> omega) (by omega) (.int .i64 T.t) (.int .i64 T.p) (.slice a7 T.zs.length c7)
            go_wp2
            go_roundw
            case rel => exact ⟨k + 1, w6.heap.size, w7.heap.size, a7, c7, by omega, by go_num, by omega, .inr (by omega), by simp [World.setCell]; omega, by rw [hS1.out]; exact S8⟩
            case measure => simp [intOf]; omega
          · rw [hf] at HF
            rw [hst] at hS1
            go_wp2_with fail
            clear x0 x1 x2 x3 x4 x5 xz q
            refine (HF.out _ (by exact Sr.ints 1 rfl)).mono ?_
            rintro e w6 ⟨rfl, hb⟩
            have S6 := Sr.below hb
            have z6 := hb.size
            clear Sr hb
            go_wp2
            go_roundw
            case rel => exact ⟨k + 1, lo, hi', aj, cj, by omega, by go_num, hlo, hfar, by omega, by rw [hS1.out]; exact S6⟩
            case measure => simp [intOf]; omega
        · obtain rfl : k = ks.length := by omega
          obtain ⟨y0, y1, y2, y3, y4, y5, yz⟩ := facts3 (Sr.cells 2 rfl)
          have HLN := Lib.hid (HL.out _ (Nat.le_refl ks.length)).len
          have S7 := (Sr.turn (l' := [It.own lo hi' aj (shiftsTo T ks ks.length)]) fun i hi => by simp at hi; subst hi; simp).set3Far (b := w.heap.size + 1) ⟨.inr (by show w.heap.size + 1 + 1 ≤ lo; omega), trivial⟩ (by omega) (.int .i64 T.t) (.int .i64 T.p) (.slice aj T.zs.length cj)
          go_wp2
          refine bodyPost_ret (v := .tuple #[.agg #[.int .i64 T.t, .int .i64 T.p, .slice aj T.zs.length cj], .bool true]) (by simp [results, Tryz.results42, go_sem, x0, x1, x2, y0, y1, y2, y3, y4, y5]) rfl ?_
          rw [E.out.1, E.out.2]
          refine ⟨aj, cj, ?_, (S7.owns 0 rfl).mono (by omega), S7.old⟩
          rw [← tabV_tab HLN.out]

end Go.Proofs.YtalehninmdcoeaaGreatDoor

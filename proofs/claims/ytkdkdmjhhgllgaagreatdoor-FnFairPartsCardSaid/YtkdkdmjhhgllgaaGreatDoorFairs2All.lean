/-
  Fair tables: several texts as one.
-/
import Derived.Test.YtkdkdmjhhgllgaaGreatDoorFairAll
import Derived.Test.YtkdkdmjhhgllgaaGreatDoorMath
import Derived.Test.YtkdkdmjhhgllgaaGreatDoorAreKeys
import Derived.Test.YtkdkdmjhhgllgaaGreatDoorShiftAllI
import Derived.Test.YtkdkdmjhhgllgaaGreatDoorDropAll
import Derived.Test.YtkdkdmjhhgllgaaGreatDoorFairOfS
import Derived.Test.YtkdkdmjhhgllgaaGreatDoorKeys
import Derived.Test.YtkdkdmjhhgllgaaGreatDoorNew
section
namespace Go.Proofs.YtkdkdmjhhgllgaaGreatDoor
open Go.RowKit

theorem fallRes_no' {T : Tab} {ks : List Int} {w w' : World} (h : fallOk T ks = false) (hb : Below w.heap.size w w') : TabRes (fallT T ks) (fallOk T ks) w (.returned (.tuple #[tbl 0 0 none 0 0, .bool false])) w' := by
  have e : fallT T ks = ⟨0, 0, []⟩ := by unfold fallT; rw [h]; rfl
  rw [h, e]
  exact ⟨none, 0, rfl, OwnInts.nil _ _, hb⟩

set_option maxHeartbeats 4000000 in
theorem FairAll_any (T : Tab) (a : Option Addr) (c : Nat) (ks : List Int) (ak : Option Addr) (ck : Nat) (w : World) (hx : T.zs.length ≤ 9223372036854775807) (hl : ks.length ≤ 1048576) (h1 : IntsAt w a T.zs) (h2 : IntsAt w ak ks) (hL : Laid w) :
    Calls Tryz.prog 6 #[tabV T a c, .slice ak ks.length ck] w (TabRes (fallT T ks) (fallOk T ks) w) := by
  have S0 := ((((St.start w).read h2).read h1).alloc #[.int .i64 T.t, .int .i64 T.p, .slice a T.zs.length c] 25).alloc #[.int .i64 0, .int .i64 0, .slice none 0 0] 25
  rw [World.size_alloc] at S0
  have hL0 := hL.below S0.old hL.pos
  cases hs : fairB T
  · have E : Hid (fallOk T ks = false) := Lib.hid (by simp [fallOk, hs])
    go_enter Tryz.func6, Tryz.ntmps6
    go_wp2_with fail
    refine (IsFair_any T a c _ hx (by exact S0.reads 2 rfl) hL0).mono ?_
    rw [hs]
    rintro e w2 ⟨rfl, hb⟩
    have S2 := S0.below hb
    clear S0 hb
    obtain ⟨x0, x1, x2, x3, x4, x5, xz⟩ := facts3 (S2.cells 0 rfl)
    go_wp2
    refine bodyPost_ret (v := .tuple #[tbl 0 0 none 0 0, .bool false]) (by simp [results, Tryz.results6, go_sem, x0, x1, x2, x3, x4, x5]) rfl (fallRes_no' E.out ?_)
    exact set3 S2.old (by omega) _ _ _
  · have hv := fair_valid hs
    have hn := (valid_facts hv).1
    cases hk : keysB ks
    · have E : Hid (fallOk T ks = false) := Lib.hid (by simp [fallOk, hk])
      go_enter Tryz.func6, Tryz.ntmps6
      go_wp2_with fail
      refine (IsFair_any T a c _ hx (by exact S0.reads 2 rfl) hL0).mono ?_
      rw [hs]
      rintro e w2 ⟨rfl, hb⟩
      have S2 := S0.below hb
      clear S0 hb
      go_wp2_with fail
      refine (areKeys_any ks ak ck _ (by omega) (by exact S2.reads 3 rfl)).mono ?_
      rw [hk]
      rintro e w3 ⟨rfl, rfl⟩
      obtain ⟨x0, x1, x2, x3, x4, x5, xz⟩ := facts3 (S2.cells 0 rfl)
      go_wp2
      refine bodyPost_ret (v := .tuple #[tbl 0 0 none 0 0, .bool false]) (by simp [results, Tryz.results6, go_sem, x0, x1, x2, x3, x4, x5]) rfl (fallRes_no' E.out ?_)
      exact set3 S2.old (by omega) _ _ _
    · have E : Hid (fallOk T ks = (fallTo T ks ks.length).isSome ∧ fallT T ks = if fallOk T ks then tab T ((fallTo T ks ks.length).getD []) else ⟨0, 0, []⟩) := Lib.hid ⟨by simp [fallOk, hs, hk], rfl⟩
      have KP : Hid (∀ j, j < ks.length → 0 ≤ nth ks j ∧ nth ks j ≤ 99) := Lib.hid fun j hj => keysB_nth hk hj
      have HLN0 := Lib.hid fun (j : Nat) (zs : List Int) (h : fallTo T ks j = some zs) => fallTo_len h
      have HVN := Lib.hid fun (j : Nat) (zs : List Int) (h : fallTo T ks j = some zs) => fallTo_valid hv h
      have HNO := Lib.hid fun (j : Nat) (hj : j ≤ ks.length) (h : fallTo T ks j = none) => fall_not hj h
      obtain ⟨b, o, rfl, hc⟩ := h1 (by omega)
      go_enter Tryz.func6, Tryz.ntmps6
      go_wp2_with fail
      refine (IsFair_any T _ c _ hx (by exact S0.reads 2 rfl) hL0).mono ?_
      rw [hs]
      rintro e w2 ⟨rfl, hb⟩
      have S2 := S0.below hb
      clear S0 hb
      have z2 : w.heap.size + 1 < w2.heap.size := S2.sz 0 rfl
      go_wp2_with fail
      refine (areKeys_any ks ak ck _ (by omega) (by exact S2.reads 3 rfl)).mono ?_
      rw [hk]
      rintro e w3 ⟨rfl, rfl⟩
      obtain ⟨x0, x1, x2, x3, x4, x5, xz⟩ := facts3 (S2.cells 1 rfl)
      go_wp2_with fail
      refine (Tryz.slices_Clone_int b o T.zs.length c T.zs _ (Nat.le_refl _) (by omega) (fun j hj => ?_)).mono ?_
      · obtain ⟨b', o', e, hc'⟩ := (S2.reads 2 rfl) (by omega)
        cases e
        exact hc' j hj
      rintro e w4 ⟨v', rfl, hown, _, hb⟩
      obtain ⟨g, c', rfl⟩ := ownsRow_pos hown (by omega)
      rw [List.take_length] at hown
      have z4 := hb.size
      have S4 := (S2.below hb).own (ownsRow_ints hown)
      clear hown hb S2 hc h1 x0 x1 x2 x3 x4 x5 xz
      obtain ⟨x0, x1, x2, x3, x4, x5, xz⟩ := facts3 (S4.cells 2 rfl)
      have S5 := S4.setBoxAt 2 rfl 2 (.slice (some ⟨g, 0, none⟩) T.zs.length c') (c' := #[.int .i64 T.t, .int .i64 T.p, .slice (some ⟨g, 0, none⟩) T.zs.length c']) (by have := setCell_inRow (S4.cells 2 rfl) 2 (.slice (some ⟨g, 0, none⟩) T.zs.length c'); simpa using this) (by simp [Far, It.box, It.own, It.read] <;> omega) (by omega)
      have S6 := S5.turn (l' := [It.box w.heap.size #[.int .i64 T.t, .int .i64 T.p, .slice (some ⟨g, 0, none⟩) T.zs.length c'] 25, It.own w3.heap.size w4.heap.size (some ⟨g, 0, none⟩) T.zs, It.box (w.heap.size + 1) #[.int .i64 0, .int .i64 0, .slice none 0 0] 25, It.read w.heap.size ak ks]) fun i hi => by
        simp only [List.mem_cons, List.not_mem_nil, or_false] at hi ⊢
        rcases hi with h | h | h | h <;> subst h <;> simp
      go_wp2_with fail
      clear x0 x1 x2 x3 x4 x5 xz S4 S5
      have hz5 : w3.heap.size ≤ (w4.setCell ⟨w.heap.size, 2, none⟩ (.slice (some ⟨g, 0, none⟩) T.zs.length c')).heap.size := by simp [World.setCell]; omega
      generalize w4.setCell ⟨w.heap.size, 2, none⟩ (.slice (some ⟨g, 0, none⟩) T.zs.length c') = w5 at S6 hz5 ⊢
      go_loopw [7, 8, 9, 25] (fun _ _ _ i wr => ∃ (k hi' : Nat) (aj : Option Addr) (cj : Nat) (zs : List Int), k ≤ ks.length ∧ i = .int .i64 k ∧ fallTo T ks k = some zs ∧ w3.heap.size ≤ wr.heap.size ∧ St w wr [It.box w.heap.size #[.int .i64 T.t, .int .i64 T.p, .slice aj T.zs.length cj] 25, It.own w3.heap.size hi' aj zs, It.box (w.heap.size + 1) #[.int .i64 0, .int .i64 0, .slice none 0 0] 25, It.read w.heap.size ak ks]) (fun _ _ _ i _ => ks.length - (intOf i).toNat)
      case atStart => exact ⟨0, _, _, _, T.zs, Nat.zero_le _, rfl, rfl, hz5, S6⟩
      case round =>
        obtain ⟨k, hi', aj, cj, zs, hkk, rfl, hfz, hzr, Sr⟩ := hrel
        have HFZ := Lib.hid hfz
        clear hfz
        clear S6
        obtain ⟨x0, x1, x2, x3, x4, x5, xz⟩ := facts3 (Sr.cells 0 rfl)
        have L5 := hL.below Sr.old hL.pos
        by_cases hlt : k < ks.length
        · have k0 : (0 : Int) ≤ (k : Int) := by omega
          have k1 : (k : Int) < (ks.length : Int) := by omega
          obtain ⟨bk, ok, x, rfl, q, X⟩ := (Sr.reads 3 rfl).at hlt
          have hxb := KP.out k hlt
          rw [X.out] at hxb
          have hln := HLN0.out k zs HFZ.out
          have hvz := HVN.out k zs HFZ.out
          have hS1 : Hid (fallTo T ks (k + 1) = stepF T zs x) := Lib.hid (by show (fallTo T ks k).bind (fun zs => stepF T zs (nth ks k)) = _; rw [HFZ.out, X.out]; rfl)
          have HFI : Hid (Calls Tryz.prog 21 #[.agg #[.int .i64 T.t, .int .i64 T.p, .slice aj T.zs.length cj], .int .i64 x] wr fun e w' => e = .returned (.bool (decide (0 ≤ findI (tab T zs) x))) ∧ Below wr.heap.size wr w') := Lib.hid (by
            have h := finds_any (tab T zs) aj cj x wr hvz hxb.1 hxb.2 (Sr.ints 1 rfl)
            rw [tabV_tab hln] at h
            exact h)
          have HFP : Hid (∀ W, IntsAt W aj zs → Laid W → Calls Tryz.prog 22 #[.agg #[.int .i64 T.t, .int .i64 T.p, .slice aj T.zs.length cj], .int .i64 x] W (TabRes (fputT (tab T zs) x) (fputOk (tab T zs) x) W)) := Lib.hid (fun W h1 h2 => by
            have h := FairPut_any (tab T zs) aj cj x W (by show zs.length ≤ _; rw [hln]; exact hx) h1 h2
            rw [tabV_tab hln] at h
            exact h)
          have HSF := Lib.hid (show stepF T zs x = if 0 ≤ findI (tab T zs) x then some zs else if fputOk (tab T zs) x then some (fputZ (tab T zs) x) else none from rfl)
          have HUT := Lib.hid (show fputT (tab T zs) x = if fputOk (tab T zs) x then tab (tab T zs) (fputZ (tab T zs) x) else ⟨0, 0, []⟩ from rfl)
          have HLZ : Hid ((fputZ (tab T zs) x).length = T.zs.length) := Lib.hid (by rw [fputZ_len]; exact hln)
          have HLN := Lib.hid hln
          have HVZ := Lib.hid hvz
          clear hln hvz
          by_cases h0 : 0 ≤ findI (tab T zs) x
          · rw [if_pos h0] at HSF
            rw [decide_eq_true h0] at HFI
            clear h0 HUT HFP HLZ
            go_wp2_with fail
            clear x0 x1 x2 x3 x4 x5 xz q
            refine HFI.out.mono ?_
            rintro e w6 ⟨rfl, hb⟩
            have z6 := hb.size
            have S6 := Sr.below hb
            clear Sr hb
            go_wp2
            go_roundw
            case rel => exact ⟨k + 1, hi', aj, cj, zs, by omega, by go_num, by rw [hS1.out, HSF.out], by omega, S6⟩
            case measure => simp [intOf]; omega
          · rw [if_neg h0] at HSF
            rw [decide_eq_false h0] at HFI
            clear h0
            cases hok : fputOk (tab T zs) x
            · rw [hok] at HFP HSF HUT
              rw [if_neg (by simp)] at HSF HUT
              rw [HUT.out] at HFP
              go_wp2_with fail
              refine HFI.out.mono ?_
              rintro e w6 ⟨rfl, hb⟩
              have z6 := hb.size
              have S6 := Sr.below hb
              have L6 := hL.below S6.old hL.pos
              clear Sr hb x0 x1 x2 x3 x4 x5 xz
              obtain ⟨x0, x1, x2, x3, x4, x5, xz⟩ := facts3 (S6.cells 0 rfl)
              go_wp2_with fail
              clear x0 x1 x2 x3 x4 x5 xz q
              refine (HFP.out _ (by exact S6.ints 1 rfl) L6).mono ?_
              rintro e w7 ⟨a7, c7, rfl, ho, hb⟩
              have z7 := hb.size
              have S7 := (S6.below hb).alloc #[.int .i64 0, .int .i64 0, .slice a7 0 c7] 25
              clear S6 hb ho L6
              obtain ⟨y0, y1, y2, y3, y4, y5, yz⟩ := facts3 (S7.cells 3 rfl)
              go_wp2
              refine bodyPost_ret (v := .tuple #[tbl 0 0 none 0 0, .bool false]) (by simp [results, Tryz.results6, go_sem, y0, y1, y2, y3, y4, y5]) rfl (fallRes_no' (HNO.out (k + 1) hlt (by rw [hS1.out, HSF.out])) ?_)
              first
                | exact set3 S7.old (by omega) _ _ _
                | exact (set3 (S7.old) (by omega) _ _ _)
            · rw [hok] at HFP HSF HUT
              rw [if_pos rfl] at HSF HUT
              rw [HUT.out] at HFP
              clear hok HUT
              generalize fputZ (tab T zs) x = zt at HFP HSF HLZ
              have HFP2 : Hid (∀ W, IntsAt W aj zs → Laid W → Calls Tryz.prog 22 #[.agg #[.int .i64 T.t, .int .i64 T.p, .slice aj T.zs.length cj], .int .i64 x] W fun e w' => ∃ a1 c1, e = .returned (.tuple #[.agg #[.int .i64 T.t, .int .i64 T.p, .slice a1 T.zs.length c1], .bool true]) ∧ OwnInts w' W.heap.size a1 zt ∧ Below W.heap.size W w') := Lib.hid (fun W h1 h2 => (HFP.out W h1 h2).mono (by
                rintro e w' ⟨a1, c1, rfl, ho, hb⟩
                refine ⟨a1, c1, ?_, ho, hb⟩
                show Ending.returned (.tuple #[.agg #[.int .i64 T.t, .int .i64 T.p, .slice a1 zt.length c1], .bool true]) = _
                rw [HLZ.out]))
              clear HFP
              go_wp2_with fail
              refine HFI.out.mono ?_
              rintro e w6 ⟨rfl, hb⟩
              have z6 := hb.size
              have S6 := Sr.below hb
              have L6 := hL.below S6.old hL.pos
              clear Sr hb x0 x1 x2 x3 x4 x5 xz
              obtain ⟨x0, x1, x2, x3, x4, x5, xz⟩ := facts3 (S6.cells 0 rfl)
              go_wp2_with fail
              clear x0 x1 x2 x3 x4 x5 xz q
              refine (HFP2.out _ (by exact S6.ints 1 rfl) L6).mono ?_
              rintro e w7 ⟨a7, c7, rfl, ho, hb⟩
              have z7 := hb.size
              have S7 := ((S6.below hb).add (It.own w3.heap.size w7.heap.size a7 zt) (Nat.le_refl _) ⟨ho.mono (by omega), fun p hp => (ho.1 p hp).2⟩).alloc #[.int .i64 T.t, .int .i64 T.p, .slice a7 T.zs.length c7] 25
              clear S6 hb ho L6
              obtain ⟨x0, x1, x2, x3, x4, x5, xz⟩ := facts3 (S7.cells 2 rfl)
              obtain ⟨y0, y1, y2, y3, y4, y5, yz⟩ := facts3 (S7.cells 0 rfl)
              have S8 := (S7.turn (l' := [It.box w.heap.size #[.int .i64 T.t, .int .i64 T.p, .slice aj T.zs.length cj] 25, It.own w3.heap.size w7.heap.size a7 zt, It.box (w.heap.size + 1) #[.int .i64 0, .int .i64 0, .slice none 0 0] 25, It.read w.heap.size (some ⟨bk, ok, none⟩) ks]) fun i hi => by
                simp only [List.mem_cons, List.not_mem_nil, or_false] at hi
                rcases hi with h | h | h | h <;> subst h <;> simp).set3Box 0 rfl (by simp [Far, It.box, It.own, It.read] <;> omega) (Nat.le_refl _) (.int .i64 T.t) (.int .i64 T.p) (.slice a7 T.zs.length c7)
              go_wp2
              go_roundw
              case rel => exact ⟨k + 1, w7.heap.size, a7, c7, zt, by omega, by go_num, by rw [hS1.out, HSF.out], by simp [World.setCell]; omega, S8⟩
              case measure => simp [intOf]; omega
        · obtain rfl : k = ks.length := by omega
          obtain ⟨y0, y1, y2, y3, y4, y5, yz⟩ := facts3 (Sr.cells 2 rfl)
          have HLN := Lib.hid (HLN0.out _ _ HFZ.out)
          have S7 := (Sr.turn (l' := [It.own w3.heap.size hi' aj zs]) fun i hi => by simp at hi; subst hi; simp).set3Far (b := w.heap.size + 1) ⟨.inr (by show w.heap.size + 1 + 1 ≤ w3.heap.size; omega), trivial⟩ (by omega) (.int .i64 T.t) (.int .i64 T.p) (.slice aj T.zs.length cj)
          go_wp2
          refine bodyPost_ret (v := .tuple #[.agg #[.int .i64 T.t, .int .i64 T.p, .slice aj T.zs.length cj], .bool true]) (by simp [results, Tryz.results6, go_sem, x0, x1, x2, y0, y1, y2, y3, y4, y5]) rfl ?_
          have e1 : fallOk T ks = true := by rw [E.out.1, HFZ.out]; rfl
          have e2 : fallT T ks = tab T zs := by rw [E.out.2, e1, HFZ.out]; rfl
          rw [e1, e2]
          refine ⟨aj, cj, ?_, (S7.owns 0 rfl).mono (by omega), S7.old⟩
          rw [← tabV_tab HLN.out]

end Go.Proofs.YtkdkdmjhhgllgaaGreatDoor
end

section
namespace Go.Proofs.YtkdkdmjhhgllgaaGreatDoor
open Go.RowKit

theorem freeF_valid {T : Tab} (hv : validB T = true) : validB (freeF T) = true := by
  refine validB_iff.2 ⟨?_, ?_⟩
  · have := (validB_iff.1 hv).1
    show headB (List.replicate T.zs.length (-1 : Int)).length T.t T.p = true
    rw [List.length_replicate]; exact this
  · show Good (List.replicate T.zs.length (-1 : Int)) (List.replicate T.zs.length (-1 : Int)).length
    rw [List.length_replicate]
    intro i hi
    have e : nth (List.replicate T.zs.length (-1 : Int)) i = -1 := by simp [nth, hi]
    rw [e]
    exact ⟨rfl, fun h => by omega⟩
theorem fof_eq {T : Tab} (hv : validB T = true) : fofOk T = fallOk (freeF T) (keysOf T) ∧ fofT T = fallT (freeF T) (keysOf T) := by
  have hl : (freeF T).zs.length = T.zs.length := by simp [freeF]
  have e1 : fofOk T = fallOk (freeF T) (keysOf T) := by
    by_cases h : (keysOf T).length < T.zs.length
    · simp [fofOk, hv, h]
    · have hp : (keysOf T).Pairwise (· < ·) := by unfold keysOf; rw [if_pos hv]; exact sortU_pairwise T.zs
      have := fall_full (T := freeF T) (ks := keysOf T) (freeF_valid hv) (fun i hi => by rw [hl] at hi; simp [freeF, nth, hi]) (fun i j hi hj e => by
        rcases Nat.lt_trichotomy i j with h | h | h
        · have := (List.pairwise_iff_getElem.1 hp) i j hi hj h
          simp [nth, hi, hj] at e
          omega
        · exact h
        · have := (List.pairwise_iff_getElem.1 hp) j i hj hi h
          simp [nth, hi, hj] at e
          omega) (fun i hi => by
        have e : keysOf T = sortU T.zs := by unfold keysOf; rw [if_pos hv]
        have h := nth_mem (zs := keysOf T) hi
        have h2 : nth (keysOf T) i ∈ sortU T.zs := by rw [← e]; exact h
        exact (sortU_mem.1 h2).1.1) (by rw [hl]; omega)
      simp [fofOk, h, this]
  refine ⟨e1, ?_⟩
  unfold fofT
  rw [e1]
  split
  · rfl
  · rename_i h
    simp [fallT, h]

set_option maxHeartbeats 4000000 in
theorem FairOf_any (T : Tab) (a : Option Addr) (c : Nat) (w : World) (hx : T.zs.length ≤ 9223372036854775807) (h1 : IntsAt w a T.zs) (hL : Laid w) :
    Calls Tryz.prog 9 #[tabV T a c] w (TabRes (fofT T) (fofOk T) w) := by
  have S0 := (((St.start w).read h1).alloc #[.int .i64 T.t, .int .i64 T.p, .slice a T.zs.length c] 25).alloc #[.int .i64 0, .int .i64 0, .slice none 0 0] 25
  rw [World.size_alloc] at S0
  have HK := Lib.hid fun (W : World) (h : IntsAt W a T.zs) => KeysIn_any T a c W hx h
  have hkl : (keysOf T).length ≤ 100 := by
    unfold keysOf
    split
    · exact sortTo_len _ _
    · simp
  cases hv : validB T
  · have E : Hid (fofOk T = false) := Lib.hid (by simp [fofOk, hv])
    rw [hv] at HK
    generalize keysOf T = ks at HK hkl
    go_enter Tryz.func9, Tryz.ntmps9
    go_wp2_with fail
    refine (HK.out _ (by exact S0.reads 2 rfl)).mono ?_
    rintro e w2 ⟨a2, c2, rfl, ho, hb⟩
    have S2 := S0.below hb
    clear S0 hb ho
    obtain ⟨x0, x1, x2, x3, x4, x5, xz⟩ := facts3 (S2.cells 0 rfl)
    go_wp2
    refine bodyPost_ret (v := .tuple #[tbl 0 0 none 0 0, .bool false]) (by simp [results, Tryz.results9, go_sem, x0, x1, x2, x3, x4, x5]) rfl (fofRes_no E.out ?_)
    exact set3 S2.old (by omega) _ _ _
  · obtain ⟨⟨l1, l2⟩, _⟩ := valid_facts hv
    have E := Lib.hid (fof_eq hv)
    rw [hv] at HK
    have HN : Hid (∀ W : World, Calls Tryz.prog 31 #[.int .i64 T.zs.length, .int .i64 T.t, .int .i64 T.p] W fun e w' => ∃ a' c', e = .returned (.tuple #[.agg #[.int .i64 T.t, .int .i64 T.p, .slice a' T.zs.length c'], .bool true]) ∧ OwnInts w' W.heap.size a' (freeF T).zs ∧ Below W.heap.size W w') := Lib.hid fun W => by
      have hh := (validB_iff.1 hv).1
      have := NewTable_any T.zs.length T.t T.p W
      rw [hh] at this
      refine this.mono ?_
      rintro e w' ⟨a', c', rfl, ho, hb⟩
      have hnt : newTab T.zs.length T.t T.p = freeF T := by simp [newTab, hh, freeF]
      rw [hnt] at ho ⊢
      exact ⟨a', c', by simp [freeF], ho, hb⟩
    have HFA := Lib.hid fun (af : Option Addr) (cf : Nat) (ak : Option Addr) (ck : Nat) (W : World) (h1 : IntsAt W af (freeF T).zs) (h2 : IntsAt W ak (keysOf T)) (hl : Laid W) => FairAll_any (freeF T) af cf (keysOf T) ak ck W (by show (List.replicate T.zs.length (-1)).length ≤ _; simp; omega) (by omega) h1 h2 hl
    have e3 : ∀ af cf, tabV (freeF T) af cf = .agg #[.int .i64 T.t, .int .i64 T.p, .slice af T.zs.length cf] := fun af cf => by
      show Value.agg #[_, _, .slice af (List.replicate T.zs.length (-1)).length cf] = _
      rw [List.length_replicate]; rfl
    simp only [e3] at HFA
    have hzl : (freeF T).zs.length = T.zs.length := by simp [freeF]
    generalize (freeF T).zs = fz at *
    generalize fallT (freeF T) (keysOf T) = U at *
    generalize fallOk (freeF T) (keysOf T) = ok at *
    generalize keysOf T = ks at *
    clear e3 hv hzl
    go_enter Tryz.func9, Tryz.ntmps9
    go_wp2_with fail
    refine (HK.out _ (by exact S0.reads 2 rfl)).mono ?_
    rintro e w2 ⟨a2, c2, rfl, ho, hb⟩
    have z2 := hb.size
    have S2 := (S0.below hb).own ho
    clear S0 hb ho
    obtain ⟨x0, x1, x2, x3, x4, x5, xz⟩ := facts3 (S2.cells 2 rfl)
    go_wp2_with fail
    clear x0 x1 x2 x3 x4 x5 xz
    refine (HN.out _).mono ?_
    rintro e w3 ⟨a3, c3, rfl, ho, hb⟩
    have z3 := hb.size
    have S3 := ((S2.below hb).own ho).alloc #[.int .i64 T.t, .int .i64 T.p, .slice a3 T.zs.length c3] 25
    clear S2 hb ho
    have L3 := hL.below S3.old hL.pos
    obtain ⟨x0, x1, x2, x3, x4, x5, xz⟩ := facts3 (S3.cells 0 rfl)
    go_wp2_with fail
    clear x0 x1 x2 x3 x4 x5 xz
    refine (HFA.out a3 c3 a2 c2 _ (by exact S3.ints 1 rfl) (by exact S3.ints 2 rfl) L3).mono ?_
    rintro e w4 ⟨a4, c4, rfl, ho, hb⟩
    have S4 := (S3.below hb).own ho
    clear S3 hb ho
    have z4 : w.heap.size + 1 + 1 ≤ w2.heap.size := by have := z2; simpa using this
    obtain ⟨y0, y1, y2, y3, y4, y5, yz⟩ := facts3 (S4.cells 4 rfl)
    have S5 := S4.set3Box 4 rfl (by simp [Far, It.box, It.own, It.read]; omega) (by omega) (.int .i64 U.t) (.int .i64 U.p) (.slice a4 U.zs.length c4)
    simp only [List.set_cons_zero, List.set_cons_succ] at S5
    obtain ⟨r0, r1, r2, r3, r4, r5, rz⟩ := facts3 (S5.cells 4 rfl)
    go_wp2_with fail
    refine bodyPost_ret (v := .tuple #[.agg #[.int .i64 U.t, .int .i64 U.p, .slice a4 U.zs.length c4], .bool ok]) (by simp [results, Tryz.results9, go_sem, r0, r1, r2]) rfl ?_
    rw [E.out.1, E.out.2]
    exact ⟨a4, c4, rfl, (S5.owns 0 rfl).mono (by simp <;> omega), S5.old⟩

end Go.Proofs.YtkdkdmjhhgllgaaGreatDoor
end

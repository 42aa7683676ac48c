/-
  DropAll: the program's and the model's.
-/
import Derived.Test.YtpbffdjiijpigaaGreatDoorAreKeys
import Derived.Test.YtpbffdjiijpigaaGreatDoorWithout
import Derived.Test.YtpbffdjiijpigaaGreatDoorFindS
import Derived.Test.YtpbffdjiijpigaaGreatDoorLost
import Derived.Test.YtpbffdjiijpigaaGreatDoorLostI
namespace Go.Proofs.YtpbffdjiijpigaaGreatDoor
open Go.RowKit

theorem keysB_parts {ks : List Int} (h : keysB ks = true) : ks.length ≤ 100 ∧ ∀ j, j < ks.length → 0 ≤ nth ks j ∧ nth ks j ≤ 99 := by
  simp only [keysB, Bool.and_eq_true, decide_eq_true_eq, List.all_eq_true] at h
  exact ⟨h.1, fun j hj => inB_iff.1 (h.2 _ (nth_mem hj))⟩
theorem dropsT_len (T : Tab) (ks : List Int) : (dropsT T ks).zs.length ≤ 16 := by
  unfold dropsT
  split
  · rename_i h
    simp only [dropsOk, Bool.and_eq_true] at h
    show (dropL ks T.zs).length ≤ 16
    rw [dropL_len]
    exact (valid_facts (sound_all.1 h.1).1).1.2
  · simp
theorem dropsRes_no {T : Tab} {ks : List Int} {w w' : World} (h : dropsOk T ks = false) (hb : Below w.heap.size w w') : TabRes (dropsT T ks) (dropsOk T ks) w (.returned (.tuple #[tbl 0 0 none 0 0, .bool false])) w' := by
  rw [h, dropsT_no h]
  exact ⟨none, 0, rfl, OwnInts.nil _ _, hb⟩
theorem take_snoc {ks : List Int} {k : Nat} (hk : k < ks.length) : ks.take (k + 1) = ks.take k ++ [nth ks k] := by
  rw [List.take_add_one, nth, List.getElem?_eq_getElem hk]
  rfl

set_option maxHeartbeats 2000000 in
theorem DropAll_any (T : Tab) (a : Option Addr) (c : Nat) (ks : List Int) (ak : Option Addr) (ck : Nat) (w : World) (hx : T.zs.length ≤ 9223372036854775807) (hl : ks.length ≤ 1048576) (h1 : IntsAt w a T.zs) (h2 : IntsAt w ak ks) :
    Calls Tryz.prog 21 #[tabV T a c, .slice ak ks.length ck] w (TabRes (dropsT T ks) (dropsOk T ks) w) := by
  have S0 := ((((St.start w).read h2).read h1).alloc #[.int .i64 T.t, .int .i64 T.p, .slice a T.zs.length c] 25).alloc #[.int .i64 0, .int .i64 0, .slice none 0 0] 25
  rw [World.size_alloc] at S0
  cases hs : soundB T
  · have E : Hid (dropsOk T ks = false) := Lib.hid (by simp [dropsOk, hs])
    go_enter Tryz.func21, Tryz.ntmps21
    go_wp2_with fail
    refine (IsSound_any T a c _ hx (by exact S0.reads 2 rfl)).mono ?_
    rw [hs]
    rintro e w2 ⟨rfl, hb⟩
    have S2 := S0.below hb
    clear S0 hb
    obtain ⟨x0, x1, x2, x3, x4, x5, xz⟩ := facts3 (S2.cells 0 rfl)
    go_wp2
    refine bodyPost_ret (v := .tuple #[tbl 0 0 none 0 0, .bool false]) (by simp [results, Tryz.results21, go_sem, x0, x1, x2, x3, x4, x5]) rfl (dropsRes_no E.out ?_)
    exact set3 S2.old (by omega) _ _ _
  · have hn := (valid_facts (sound_all.1 hs).1).1
    cases hk : keysB ks
    · have E : Hid (dropsOk T ks = false) := Lib.hid (by simp [dropsOk, hk])
      go_enter Tryz.func21, Tryz.ntmps21
      go_wp2_with fail
      refine (IsSound_any T a c _ hx (by exact S0.reads 2 rfl)).mono ?_
      rw [hs]
      rintro e w2 ⟨rfl, hb⟩
      have S2 := S0.below hb
      clear S0 hb
      go_wp2_with fail
      refine (areKeys_any ks ak ck _ (by omega) (by exact S2.reads 3 rfl)).mono ?_
      rw [hk]
      rintro e w3 ⟨rfl, rfl⟩
      obtain ⟨x0, x1, x2, x3, x4, x5, xz⟩ := facts3 (S2.cells 0 rfl)
      go_wp2
      refine bodyPost_ret (v := .tuple #[tbl 0 0 none 0 0, .bool false]) (by simp [results, Tryz.results21, go_sem, x0, x1, x2, x3, x4, x5]) rfl (dropsRes_no E.out ?_)
      exact set3 S2.old (by omega) _ _ _
    · have E : Hid (dropsOk T ks = true ∧ dropsT T ks = dropAt T ks) := Lib.hid ⟨by simp [dropsOk, hs, hk], dropsT_yes (by simp [dropsOk, hs, hk])⟩
      go_enter Tryz.func21, Tryz.ntmps21
      go_wp2_with fail
      refine (IsSound_any T a c _ hx (by exact S0.reads 2 rfl)).mono ?_
      rw [hs]
      rintro e w2 ⟨rfl, hb⟩
      have S2 := S0.below hb
      clear S0 hb
      have z2 : w.heap.size + 1 < w2.heap.size := S2.sz 0 rfl
      go_wp2_with fail
      refine (areKeys_any ks ak ck _ (by omega) (by exact S2.reads 3 rfl)).mono ?_
      rw [hk]
      rintro e w3 ⟨rfl, rfl⟩
      obtain ⟨x0, x1, x2, x3, x4, x5, xz⟩ := facts3 (S2.cells 1 rfl)
      go_wp2_with fail
      refine (without_any T a c ks ak ck _ hn.1 hn.2 (by omega) (by exact S2.reads 2 rfl) (by exact S2.reads 3 rfl)).mono ?_
      rintro e w4 ⟨g, c', rfl, ho, hb⟩
      have S4 := (S2.below hb).own ho
      clear S2 hb ho x0 x1 x2 x3 x4 x5 xz
      obtain ⟨x0, x1, x2, x3, x4, x5, xz⟩ := facts3 (S4.cells 1 rfl)
      go_wp2
      have S5 := (S4.turn (l' := [It.own w3.heap.size w4.heap.size (some ⟨g, 0, none⟩) (dropAt T ks).zs]) fun i hi => by simp at hi; subst hi; simp).set3Far (b := w.heap.size + 1) ⟨.inr (by show w.heap.size + 1 + 1 ≤ w3.heap.size; omega), trivial⟩ (by omega) (.int .i64 (dropAt T ks).t) (.int .i64 (dropAt T ks).p) (.slice (some ⟨g, 0, none⟩) (dropAt T ks).zs.length c')
      refine bodyPost_ret (v := .tuple #[tabV (dropAt T ks) (some ⟨g, 0, none⟩) c', .bool true]) (by simp [results, Tryz.results21, go_sem, x0, x1, x2, x3, x4, x5]) rfl ?_
      rw [E.out.1, E.out.2]
      exact ⟨_, c', rfl, (S5.owns 0 rfl).mono (by omega), S5.old⟩

set_option maxHeartbeats 4000000 in
theorem specDropAll_any (T : Tab) (a : Option Addr) (c : Nat) (ks : List Int) (ak : Option Addr) (ck : Nat) (w : World) (hx : T.zs.length ≤ 9223372036854775807) (hl : ks.length ≤ 1048576) (h1 : IntsAt w a T.zs) (h2 : IntsAt w ak ks) :
    Calls Tryz.prog 22 #[tabV T a c, .slice ak ks.length ck] w (TabRes (dropsT T ks) (dropsOk T ks) w) := by
  have S0 := ((((St.start w).read h2).read h1).alloc #[.int .i64 T.t, .int .i64 T.p, .slice a T.zs.length c] 25).alloc #[.int .i64 0, .int .i64 0, .slice none 0 0] 25
  rw [World.size_alloc] at S0
  cases hs : soundB T
  · have E : Hid (dropsOk T ks = false) := Lib.hid (by simp [dropsOk, hs])
    go_enter Tryz.func22, Tryz.ntmps22
    go_wp2_with fail
    refine (specIsSound_any T a c _ hx (by exact S0.reads 2 rfl)).mono ?_
    rw [hs]
    rintro e w2 ⟨rfl, hb⟩
    have S2 := S0.below hb
    clear S0 hb
    obtain ⟨x0, x1, x2, x3, x4, x5, xz⟩ := facts3 (S2.cells 0 rfl)
    go_wp2
    refine bodyPost_ret (v := .tuple #[tbl 0 0 none 0 0, .bool false]) (by simp [results, Tryz.results22, go_sem, x0, x1, x2, x3, x4, x5]) rfl (dropsRes_no E.out ?_)
    exact set3 S2.old (by omega) _ _ _
  · have hn := (valid_facts (sound_all.1 hs).1).1
    cases hk : keysB ks
    · have E : Hid (dropsOk T ks = false) := Lib.hid (by simp [dropsOk, hk])
      go_enter Tryz.func22, Tryz.ntmps22
      go_wp2_with fail
      refine (specIsSound_any T a c _ hx (by exact S0.reads 2 rfl)).mono ?_
      rw [hs]
      rintro e w2 ⟨rfl, hb⟩
      have S2 := S0.below hb
      clear S0 hb
      go_wp2_with fail
      refine (l3Keys_any ks ak ck _ (by omega) (by exact S2.reads 3 rfl)).mono ?_
      rw [hk]
      rintro e w3 ⟨rfl, rfl⟩
      obtain ⟨x0, x1, x2, x3, x4, x5, xz⟩ := facts3 (S2.cells 0 rfl)
      go_wp2
      refine bodyPost_ret (v := .tuple #[tbl 0 0 none 0 0, .bool false]) (by simp [results, Tryz.results22, go_sem, x0, x1, x2, x3, x4, x5]) rfl (dropsRes_no E.out ?_)
      exact set3 S2.old (by omega) _ _ _
    · have E : Hid (dropsOk T ks = true ∧ dropsT T ks = dropAt T ks) := Lib.hid ⟨by simp [dropsOk, hs, hk], dropsT_yes (by simp [dropsOk, hs, hk])⟩
      have KP := Lib.hid (keysB_parts hk)
      have HS := Lib.hid hs
      go_enter Tryz.func22, Tryz.ntmps22
      go_wp2_with fail
      refine (specIsSound_any T a c _ hx (by exact S0.reads 2 rfl)).mono ?_
      rw [hs]
      rintro e w2 ⟨rfl, hb⟩
      have S2 := S0.below hb
      clear S0 hb
      have z2 : w.heap.size + 1 < w2.heap.size := S2.sz 0 rfl
      go_wp2_with fail
      refine (l3Keys_any ks ak ck _ (by omega) (by exact S2.reads 3 rfl)).mono ?_
      rw [hk]
      rintro e w3 ⟨rfl, rfl⟩
      obtain ⟨x0, x1, x2, x3, x4, x5, xz⟩ := facts3 (S2.cells 1 rfl)
      go_wp2_with fail
      refine (l1Copy_any T a c _ hn.1 (by omega) (by exact S2.reads 2 rfl)).mono ?_
      rintro e w4 ⟨g, c', rfl, ho, hb⟩
      have z4 := hb.size
      have S4 := ((S2.below hb).own ho).alloc #[.int .i64 T.t, .int .i64 T.p, .slice (some ⟨g, 0, none⟩) T.zs.length c'] 25
      have S5 := S4.turn (l' := [It.box w4.heap.size #[.int .i64 T.t, .int .i64 T.p, .slice (some ⟨g, 0, none⟩) T.zs.length c'] 25, It.own w3.heap.size w4.heap.size (some ⟨g, 0, none⟩) T.zs, It.box (w.heap.size + 1) #[.int .i64 0, .int .i64 0, .slice none 0 0] 25, It.read w.heap.size ak ks]) fun i hi => by
        simp only [List.mem_cons, List.not_mem_nil, or_false] at hi ⊢
        rcases hi with h | h | h | h
        · exact .inl h
        · exact .inr (.inl h)
        · exact .inr (.inr (.inl h))
        · exact .inr (.inr (.inr (.inr (.inr h))))
      clear S2 S4 hb ho x0 x1 x2 x3 x4 x5 xz
      go_wp2_with fail
      go_loopw [8, 9, 23] (fun _ _ i wr => ∃ k : Nat, k ≤ ks.length ∧ i = .int .i64 k ∧ St w wr [It.box w4.heap.size #[.int .i64 T.t, .int .i64 T.p, .slice (some ⟨g, 0, none⟩) T.zs.length c'] 25, It.own w3.heap.size w4.heap.size (some ⟨g, 0, none⟩) (dropL (ks.take k) T.zs), It.box (w.heap.size + 1) #[.int .i64 0, .int .i64 0, .slice none 0 0] 25, It.read w.heap.size ak ks]) (fun _ _ i _ => ks.length - (intOf i).toNat)
      case atStart => exact ⟨0, Nat.zero_le _, rfl, by rw [List.take_zero, dropL_nil]; exact S5⟩
      case round =>
        obtain ⟨k, hkk, rfl, Sr⟩ := hrel
        clear S5
        obtain ⟨x0, x1, x2, x3, x4, x5, xz⟩ := facts3 (Sr.cells 0 rfl)
        by_cases hlt : k < ks.length
        · have k0 : (0 : Int) ≤ (k : Int) := by omega
          have k1 : (k : Int) < (ks.length : Int) := by omega
          obtain ⟨b, o, x, rfl, q, X⟩ := (Sr.reads 3 rfl).at hlt
          have hxb := KP.out.2 k hlt
          rw [X.out] at hxb
          have HT : Hid (ks.take (k + 1) = ks.take k ++ [x]) := Lib.hid (by rw [take_snoc hlt, X.out])
          have hdl := dropL_len (ks.take k) T.zs
          have HST := drops_step HS.out (ks.take k) (x := x) hxb.1
          have HFd : ∀ W, IntsAt W (some ⟨g, 0, none⟩) (dropL (ks.take k) T.zs) → Calls Tryz.prog 75 #[.agg #[.int .i64 T.t, .int .i64 T.p, .slice (some ⟨g, 0, none⟩) T.zs.length c'], .int .i64 x] W fun e w' => e = .returned (.int .i64 (findI (dropAt T (ks.take k)) x)) ∧ Below W.heap.size W w' := fun W h => by
            have := l2Find_any (dropAt T (ks.take k)) (some ⟨g, 0, none⟩) c' x W (sound_all.1 (drop_sound HS.out _)).1 hxb.1 hxb.2 h
            simpa only [tabV, dropAt, dropL_len] using this
          have HFD := Lib.hid HFd
          have HDL := Lib.hid hdl
          rw [← HT.out] at HST
          clear HFd hdl
          generalize findI (dropAt T (ks.take k)) x = v at HFD HST
          generalize hD : dropL (ks.take k) T.zs = ds at Sr HFD HST HDL
          generalize hD2 : dropL (ks.take (k + 1)) T.zs = ds2 at HST
          have D2 := Lib.hid hD2
          clear hD hD2
          go_wp2_with fail
          clear x0 x1 x2 x3 x4 x5 xz
          refine (HFD.out _ (by exact Sr.ints 1 rfl)).mono ?_
          rintro e w6 ⟨rfl, hb⟩
          have S6 := Sr.below hb
          clear Sr hb q
          obtain ⟨x0, x1, x2, x3, x4, x5, xz⟩ := facts3 (S6.cells 0 rfl)
          rcases HST with ⟨m, hm, rfl, hset⟩ | ⟨rfl, hset⟩
          · obtain ⟨b', o', e, hc, hf⟩ := (S6.owns 1 rfl).2 (by have := HDL.out; omega)
            cases e
            have q := hc m (by have := HDL.out; omega)
            have f := hf m (by have := HDL.out; omega)
            rw [Nat.zero_add] at q f
            have m0 : (0 : Int) ≤ (m : Int) := by omega
            have m1 : (m : Int) < (T.zs.length : Int) := by omega
            have d0 : decide ((0 : Int) ≤ (m : Int)) = true := decide_eq_true m0
            have S7 := S6.storeOwn 1 m (by have := HDL.out; omega) rfl ⟨.inr (Nat.le_refl w4.heap.size), .inl (by show w.heap.size + 1 + 1 ≤ w3.heap.size; omega), .inl (by show w.heap.size ≤ w3.heap.size; omega), trivial⟩ (by omega) (-2)
            rw [← hset] at S7
            have HSET := Lib.hid hset
            clear hc hf hset S6
            go_wp2
            go_roundw
            case rel => exact ⟨k + 1, by omega, by go_num, by rw [D2.out]; exact S7⟩
            case measure => simp [intOf]; omega
          · subst hset
            go_wp2
            go_roundw
            case rel => exact ⟨k + 1, by omega, by go_num, by rw [D2.out]; exact S6⟩
            case measure => simp [intOf]; omega
        · obtain rfl : k = ks.length := by omega
          rw [List.take_length] at Sr
          obtain ⟨y0, y1, y2, y3, y4, y5, yz⟩ := facts3 (Sr.cells 2 rfl)
          have S6 := (Sr.turn (l' := [It.own w3.heap.size w4.heap.size (some ⟨g, 0, none⟩) (dropL ks T.zs)]) fun i hi => by simp at hi; subst hi; simp).set3Far (b := w.heap.size + 1) ⟨.inr (by show w.heap.size + 1 + 1 ≤ w3.heap.size; omega), trivial⟩ (by omega) (.int .i64 T.t) (.int .i64 T.p) (.slice (some ⟨g, 0, none⟩) T.zs.length c')
          go_wp2
          refine bodyPost_ret (v := .tuple #[tbl T.t T.p (some ⟨g, 0, none⟩) T.zs.length c', .bool true]) (by simp [results, Tryz.results22, go_sem, y0, y1, y2, y3, y4, y5]) rfl ?_
          rw [E.out.1, E.out.2]
          refine ⟨_, c', ?_, (S6.owns 0 rfl).mono (by omega), S6.old⟩
          show Ending.returned (.tuple #[.agg #[.int .i64 T.t, .int .i64 T.p, .slice (some ⟨g, 0, none⟩) T.zs.length c'], .bool true]) = .returned (.tuple #[.agg #[.int .i64 T.t, .int .i64 T.p, .slice (some ⟨g, 0, none⟩) (dropL ks T.zs).length c'], .bool true])
          rw [dropL_len]

end Go.Proofs.YtpbffdjiijpigaaGreatDoor

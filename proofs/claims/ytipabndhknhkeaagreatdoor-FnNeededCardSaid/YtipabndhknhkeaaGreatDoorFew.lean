/-
  FewestTombs: the model's, and the program's.
-/
import Derived.Test.YtipabndhknhkeaaGreatDoorBits
import Derived.Test.YtipabndhknhkeaaGreatDoorNeed
import Derived.Test.YtipabndhknhkeaaGreatDoorMath
import Derived.Test.YtipabndhknhkeaaGreatDoorNeedsS
import Derived.Test.YtipabndhknhkeaaGreatDoorAway
import Derived.Test.YtipabndhknhkeaaGreatDoorLost
import Derived.Test.YtipabndhknhkeaaGreatDoorLostI
namespace Go.Proofs.YtipabndhknhkeaaGreatDoor
open Go.RowKit

theorem fewRes_no {T : Tab} {w w' : World} (h : soundB T = false) (hb : Below w.heap.size w w') : TabRes (fewT T) false w (.returned (.tuple #[tbl 0 0 none 0 0, .bool false])) w' := by
  rw [fewT_no h]
  exact ⟨none, 0, rfl, OwnInts.nil _ _, hb⟩
theorem fewRes_yes {T : Tab} {w w' : World} {a : Option Addr} {c : Nat} (hs : soundB T = true) (ho : OwnInts w' w.heap.size a (fewL T)) (hb : Below w.heap.size w w') :
    TabRes (fewT T) true w (.returned (.tuple #[tbl T.t T.p a T.zs.length c, .bool true])) w' := by
  rw [fewT_yes hs]
  refine ⟨_, c, ?_, ho, hb⟩
  show Ending.returned (.tuple #[tbl T.t T.p a T.zs.length c, .bool true]) = .returned (.tuple #[tbl T.t T.p a (fewL T).length c, .bool true])
  rw [fewL_len]

set_option maxHeartbeats 4000000 in
theorem specFewestTombs_any (T : Tab) (a : Option Addr) (c : Nat) (w : World) (hx : T.zs.length ≤ 9223372036854775807) (h1 : IntsAt w a T.zs) :
    Calls Tryz.prog 33 #[tabV T a c] w (TabRes (fewT T) (soundB T) w) := by
  have S0 := (((St.start w).read h1).alloc #[.int .i64 T.t, .int .i64 T.p, .slice a T.zs.length c] 28).alloc #[.int .i64 0, .int .i64 0, .slice none 0 0] 28
  rw [World.size_alloc] at S0
  cases hs : soundB T
  · have E := Lib.hid hs
    go_enter Tryz.func33, Tryz.ntmps33
    go_wp2_with fail
    refine (specIsSound_any T a c _ hx (by exact S0.reads 2 rfl)).mono ?_
    rw [hs]
    rintro e w2 ⟨rfl, hb⟩
    have S2 := S0.below hb
    clear S0 hb
    obtain ⟨x0, x1, x2, x3, x4, x5, xz⟩ := facts3 (S2.cells 0 rfl)
    go_wp2
    refine bodyPost_ret (v := .tuple #[tbl 0 0 none 0 0, .bool false]) (by simp [results, Tryz.results33, go_sem, x0, x1, x2, x3, x4, x5]) rfl ?_
    exact fewRes_no E.out (set3 S2.old (Nat.le_succ _) (.int .i64 0) (.int .i64 0) (.slice none 0 0))
  · have hv := (sound_all.1 hs).1
    have hn := (valid_facts hv).1
    have HV := Lib.hid hv
    have HS := Lib.hid hs
    go_enter Tryz.func33, Tryz.ntmps33
    go_wp2_with fail
    refine (specIsSound_any T a c _ hx (by exact S0.reads 2 rfl)).mono ?_
    rw [hs]
    rintro e w2 ⟨rfl, hb⟩
    have S2 := S0.below hb
    clear S0 hb hv hs
    have z2 : w.heap.size + 1 < w2.heap.size := S2.sz 0 rfl
    obtain ⟨x0, x1, x2, x3, x4, x5, xz⟩ := facts3 (S2.cells 1 rfl)
    go_wp2_with fail
    refine (l1Copy_any T a c _ hn.1 (by omega) (by exact S2.reads 2 rfl)).mono ?_
    rintro e w4 ⟨g, c4, rfl, ho, hb⟩
    have z4 := hb.size
    have S4 := ((S2.below hb).own ho).alloc #[.int .i64 T.t, .int .i64 T.p, .slice (some ⟨g, 0, none⟩) T.zs.length c4] 28
    obtain ⟨y0, y1, y2, y3, y4, y5, yz⟩ := facts3 (S4.cells 3 rfl)
    clear S2 hb ho x0 x1 x2 x3 x4 x5 xz
    go_wp2_with fail
    clear y0 y1 y2 y3 y4 y5 yz
    go_loopw [5, 6, 16] (fun _ _ j wr => ∃ k : Nat, k ≤ T.zs.length ∧ j = .int .i64 k ∧ St w wr [It.box w4.heap.size #[.int .i64 T.t, .int .i64 T.p, .slice (some ⟨g, 0, none⟩) T.zs.length c4] 28, It.own w2.heap.size w4.heap.size (some ⟨g, 0, none⟩) (mapTo (fewF T) T.zs k), It.box (w.heap.size + 1) #[.int .i64 0, .int .i64 0, .slice none 0 0] 28, It.box w.heap.size #[.int .i64 T.t, .int .i64 T.p, .slice a T.zs.length c] 28, It.read w.heap.size a T.zs]) (fun _ _ j _ => T.zs.length - (intOf j).toNat)
    case atStart => exact ⟨0, Nat.zero_le _, rfl, by rw [mapTo_zero]; exact S4⟩
    case round =>
      obtain ⟨k, hkk, rfl, Sr⟩ := hrel
      clear S4
      obtain ⟨x0, x1, x2, x3, x4, x5, xz⟩ := facts3 (Sr.cells 0 rfl)
      obtain ⟨y0, y1, y2, y3, y4, y5, yz⟩ := facts3 (Sr.cells 3 rfl)
      by_cases hlt : k < T.zs.length
      · have k0 : (0 : Int) ≤ (k : Int) := by omega
        have k1 : (k : Int) < (T.zs.length : Int) := by omega
        have HK := Lib.hid (mapTo_keep (f := fewF T) hlt)
        have HS2 := Lib.hid (mapTo_set (f := fewF T) hlt)
        have HL := Lib.hid (mapTo_len (fewF T) T.zs k)
        obtain ⟨b, o, x, rfl, q, X⟩ := (Sr.reads 4 rfl).at hlt
        by_cases hx2 : x = -2
        · have d2 : (x == -2) = true := by simpa using hx2
          cases hnd : needOf T k
          · have HF : Hid (fewF T k (nth T.zs k) = -1) := Lib.hid (by rw [X.out, fewF, d2, hnd]; rfl)
            go_wp2_with fail
            clear x0 x1 x2 x3 x4 x5 xz y0 y1 y2 y3 y4 y5 yz
            refine (l4Needs_any T _ c k _ HV.out hlt (by exact Sr.reads 4 rfl)).mono ?_
            rw [hnd]
            rintro e w5 ⟨rfl, hb⟩
            have S5 := Sr.below hb
            clear Sr hb q
            obtain ⟨x0, x1, x2, x3, x4, x5, xz⟩ := facts3 (S5.cells 0 rfl)
            obtain ⟨b', o', e, hc, hf⟩ := (S5.owns 1 rfl).2 (by rw [HL.out]; omega)
            cases e
            have q := hc k (by rw [HL.out]; exact hlt)
            have f := hf k (by rw [HL.out]; exact hlt)
            rw [Nat.zero_add] at q f
            have S6 := S5.storeOwn 1 k (by rw [HL.out]; exact hlt) rfl ⟨.inr (Nat.le_refl w4.heap.size), .inl (by show w.heap.size + 1 + 1 ≤ w2.heap.size; omega), .inl (by show w.heap.size + 1 ≤ w2.heap.size; omega), .inl (by show w.heap.size ≤ w2.heap.size; omega), trivial⟩ (by omega) (-1)
            have h2 := HS2.out
            rw [HF.out] at h2
            rw [h2] at S6
            clear hc hf S5 h2
            go_wp2
            go_roundw
            case rel => exact ⟨k + 1, by omega, by go_num, S6⟩
            case measure => simp [intOf]; omega
          · have HF : Hid (fewF T k (nth T.zs k) = nth T.zs k) := Lib.hid (by rw [fewF, hnd]; simp)
            go_wp2_with fail
            clear x0 x1 x2 x3 x4 x5 xz y0 y1 y2 y3 y4 y5 yz
            refine (l4Needs_any T _ c k _ HV.out hlt (by exact Sr.reads 4 rfl)).mono ?_
            rw [hnd]
            rintro e w5 ⟨rfl, hb⟩
            have S5 := Sr.below hb
            rw [HK.out HF.out] at S5
            clear Sr hb q
            go_wp2
            go_roundw
            case rel => exact ⟨k + 1, by omega, by go_num, S5⟩
            case measure => simp [intOf]; omega
        · have d2 : (x == -2) = false := by simpa using hx2
          have HF : Hid (fewF T k (nth T.zs k) = nth T.zs k) := Lib.hid (by rw [X.out, fewF, d2]; rfl)
          rw [HK.out HF.out] at Sr
          go_wp2
          go_roundw
          case rel => exact ⟨k + 1, by omega, by go_num, Sr⟩
          case measure => simp [intOf]; omega
      · obtain rfl : k = T.zs.length := by omega
        obtain ⟨v0, v1, v2, v3, v4, v5, vz⟩ := facts3 (Sr.cells 2 rfl)
        have S6 := (Sr.turn (l' := [It.own w2.heap.size w4.heap.size (some ⟨g, 0, none⟩) (fewL T)]) fun i hi => by simp at hi; subst hi; simp [fewL]).set3Far (b := w.heap.size + 1) ⟨.inr (by show w.heap.size + 1 + 1 ≤ w2.heap.size; omega), trivial⟩ (by omega) (.int .i64 T.t) (.int .i64 T.p) (.slice (some ⟨g, 0, none⟩) T.zs.length c4)
        go_wp2
        refine bodyPost_ret (v := .tuple #[tbl T.t T.p (some ⟨g, 0, none⟩) T.zs.length c4, .bool true]) (by simp [results, Tryz.results33, go_sem, v0, v1, v2, v3, v4, v5]) rfl ?_
        exact fewRes_yes HS.out ((S6.owns 0 rfl).mono (by omega)) S6.old

end Go.Proofs.YtipabndhknhkeaaGreatDoor

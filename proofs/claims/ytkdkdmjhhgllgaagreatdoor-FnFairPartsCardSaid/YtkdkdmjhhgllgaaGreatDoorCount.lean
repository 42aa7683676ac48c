/-
  CountSlots, of the program and of the model.
-/
import Derived.Test.YtkdkdmjhhgllgaaGreatDoorAway
namespace Go.Proofs.YtkdkdmjhhgllgaaGreatDoor
open Go.RowKit

theorem ret_three {a b c a' b' c' : Int} (h1 : a = a') (h2 : b = b') (h3 : c = c') : Ending.returned (.tuple #[.int .i64 a, .int .i64 b, .int .i64 c]) = .returned (.tuple #[.int .i64 a', .int .i64 b', .int .i64 c']) := by rw [h1, h2, h3]
theorem count_no {T : Tab} (h : validB T = false) : -1 = countK T ∧ -1 = countT T ∧ -1 = countF T := by simp [countK, countT, countF, h]
theorem count_yes {T : Tab} (h : validB T = true) : (cnt keyP T.zs T.zs.length : Int) = countK T ∧ (cnt tombP T.zs T.zs.length : Int) = countT T ∧ (cnt freeP T.zs T.zs.length : Int) = countF T := by simp [countK, countT, countF, h]

/-- The three counts behind k rounds. -/
def Counted (zs : List Int) (k : Nat) (a b c : Int) : Prop := a = cnt keyP zs k ∧ b = cnt tombP zs k ∧ c = cnt freeP zs k
theorem Counted.zero (zs : List Int) : Counted zs 0 0 0 0 := by simp [Counted, cnt_zero]
theorem Counted.free {zs : List Int} {k : Nat} {a b c x : Int} (h : Counted zs k a b c) (hk : k < zs.length) (hx : nth zs k = x) (e : (x == -1) = true) : Counted zs (k + 1) a b (c + 1) := by
  obtain ⟨h1, h2, h3⟩ := h
  have e' : x = -1 := by simpa using e
  simp [Counted, cnt_succ hk hx, h1, h2, h3, keyP, tombP, freeP, e']
theorem Counted.tomb {zs : List Int} {k : Nat} {a b c x : Int} (h : Counted zs k a b c) (hk : k < zs.length) (hx : nth zs k = x) (e : (x == -2) = true) : Counted zs (k + 1) a (b + 1) c := by
  obtain ⟨h1, h2, h3⟩ := h
  have e' : x = -2 := by simpa using e
  simp [Counted, cnt_succ hk hx, h1, h2, h3, keyP, tombP, freeP, e']
theorem Counted.key {zs : List Int} {k : Nat} {a b c x : Int} (h : Counted zs k a b c) (hk : k < zs.length) (hx : nth zs k = x) (e : (x == -1) = false) (e2 : (x == -2) = false) : Counted zs (k + 1) (a + 1) b c := by
  obtain ⟨h1, h2, h3⟩ := h
  simp [Counted, cnt_succ hk hx, h1, h2, h3, keyP, tombP, freeP, e, e2]
theorem Counted.bounds {zs : List Int} {k : Nat} {a b c : Int} (h : Counted zs k a b c) : (0 ≤ a ∧ a ≤ zs.length) ∧ (0 ≤ b ∧ b ≤ zs.length) ∧ (0 ≤ c ∧ c ≤ zs.length) := by
  obtain ⟨rfl, rfl, rfl⟩ := h
  have h1 := cnt_le keyP zs k
  have h2 := cnt_le tombP zs k
  have h3 := cnt_le freeP zs k
  omega

set_option maxHeartbeats 1000000 in
theorem CountSlots_any (T : Tab) (a : Option Addr) (c : Nat) (w : World) (hx : T.zs.length ≤ 9223372036854775807) (h1 : IntsAt w a T.zs) :
    Calls Tryz.prog 101 #[tabV T a c] w fun e w' => e = .returned (.tuple #[.int .i64 (countK T), .int .i64 (countT T), .int .i64 (countF T)]) ∧ Below w.heap.size w w' := by
  have S0 := tabBox c 25 h1
  cases hv : validB T
  · go_enter Tryz.func101, Tryz.ntmps101
    go_wp2_with fail
    refine (TableValid_any T a c _ hx (by exact S0.reads 1 rfl)).mono ?_
    rw [hv]
    rintro e w1 ⟨rfl, hb⟩
    have S1 := S0.below hb
    go_wp2
    go_ret3
    obtain ⟨g1, g2, g3⟩ := count_no hv
    exact ⟨ret_three g1 g2 g3, S1.old⟩
  · obtain ⟨⟨l1, l2⟩, _⟩ := valid_facts hv
    go_enter Tryz.func101, Tryz.ntmps101
    go_wp2_with fail
    refine (TableValid_any T a c _ hx (by exact S0.reads 1 rfl)).mono ?_
    rw [hv]
    rintro e w1 ⟨rfl, hb⟩
    have S1 := S0.below hb
    clear S0 hb
    obtain ⟨x0, x1, x2, x3, x4, x5, xz⟩ := facts3 (S1.cells 0 rfl)
    go_wp2_with fail
    refine (ringOf_any T a c _ (by exact S1.reads 1 rfl) hv).mono ?_
    rintro e w2 ⟨g, rfl, hg0, hg, hr, hb⟩
    have S2 := S1.below hb
    clear S1 hb x0 x1 x2 x3 x4 x5 xz
    go_wp2_with fail
    go_loopw [5, 6, 7, 9, 16] (fun x y z _ i wr => ∃ (k : Nat) (a b c : Int), k ≤ T.zs.length ∧ i = .int .i64 k ∧ x = .int .i64 a ∧ y = .int .i64 b ∧ z = .int .i64 c ∧ Counted T.zs k a b c ∧ RingAt wr g T ∧ g < wr.heap.size ∧ Below w.heap.size w wr) (fun _ _ _ _ i _ => T.zs.length - (intOf i).toNat)
    case atStart => exact ⟨0, 0, 0, 0, Nat.zero_le _, rfl, rfl, rfl, rfl, Counted.zero _, hr, hg, S2.old⟩
    case round =>
      obtain ⟨k, n1, n2, n3, hk, rfl, rfl, rfl, rfl, hc, hrr, hgg, hbb⟩ := hrel
      obtain ⟨⟨b1, b2⟩, ⟨b3, b4⟩, ⟨b5, b6⟩⟩ := hc.bounds
      have C := Lib.hid hc
      have R := Lib.hid hrr
      clear hc hr hrr S2
      by_cases hlt : k < T.zs.length
      · obtain ⟨r0, r1⟩ := R.out k hlt
        obtain ⟨x, hX⟩ : ∃ x, nth T.zs k = x := ⟨_, rfl⟩
        rw [hX] at r0 r1
        have X := Lib.hid hX
        clear hX
        have hb2 := hbb.alloc hbb.size (.cells #[.int .i64 x, .int .i64 (homeT T x)] 73)
        have R2 := Lib.hid (R.out.below ((Below.refl _ wr).alloc (Nat.le_refl _) (.cells #[.int .i64 x, .int .i64 (homeT T x)] 73)) hgg)
        cases e1 : (x == -1)
        · cases e2 : (x == -2)
          · go_wp2
            go_roundw
            case rel => exact ⟨k + 1, n1 + 1, n2, n3, by omega, by go_num, rfl, rfl, rfl, C.out.key hlt X.out e1 e2, R2.out, by simp; omega, hb2⟩
            case measure => simp [intOf]; omega
          · go_wp2
            go_roundw
            case rel => exact ⟨k + 1, n1, n2 + 1, n3, by omega, by go_num, rfl, rfl, rfl, C.out.tomb hlt X.out e2, R2.out, by simp; omega, hb2⟩
            case measure => simp [intOf]; omega
        · go_wp2
          go_roundw
          case rel => exact ⟨k + 1, n1, n2, n3 + 1, by omega, by go_num, rfl, rfl, rfl, C.out.free hlt X.out e1, R2.out, by simp; omega, hb2⟩
          case measure => simp [intOf]; omega
      · go_wp2
        go_ret3
        have e : k = T.zs.length := by omega
        obtain ⟨g1, g2, g3⟩ := count_yes hv
        obtain ⟨c1, c2, c3⟩ := C.out
        rw [e] at c1 c2 c3
        exact ⟨ret_three (c1.trans g1) (c2.trans g2) (c3.trans g3), hbb⟩

set_option maxHeartbeats 1000000 in
theorem specCountSlots_any (T : Tab) (a : Option Addr) (c : Nat) (w : World) (hx : T.zs.length ≤ 9223372036854775807) (h1 : IntsAt w a T.zs) :
    Calls Tryz.prog 16 #[tabV T a c] w fun e w' => e = .returned (.tuple #[.int .i64 (countK T), .int .i64 (countT T), .int .i64 (countF T)]) ∧ Below w.heap.size w w' := by
  have S0 := tabBox c 25 h1
  cases hv : validB T
  · go_enter Tryz.func16, Tryz.ntmps16
    go_wp2_with fail
    refine (specTableValid_any T a c _ hx (by exact S0.reads 1 rfl)).mono ?_
    rw [hv]
    rintro e w1 ⟨rfl, hb⟩
    have S1 := S0.below hb
    go_wp2
    go_ret3
    obtain ⟨g1, g2, g3⟩ := count_no hv
    exact ⟨ret_three g1 g2 g3, S1.old⟩
  · obtain ⟨⟨l1, l2⟩, _⟩ := valid_facts hv
    go_enter Tryz.func16, Tryz.ntmps16
    go_wp2_with fail
    refine (specTableValid_any T a c _ hx (by exact S0.reads 1 rfl)).mono ?_
    rw [hv]
    rintro e w1 ⟨rfl, hb⟩
    have S1 := S0.below hb
    clear S0 hb
    obtain ⟨x0, x1, x2, x3, x4, x5, xz⟩ := facts3 (S1.cells 0 rfl)
    have I := Lib.hid (S1.reads 1 rfl)
    go_wp2_with fail
    go_loop [5, 6, 7, 9, 16] (fun x y z _ i => ∃ (k : Nat) (a b c : Int), k ≤ T.zs.length ∧ i = .int .i64 k ∧ x = .int .i64 a ∧ y = .int .i64 b ∧ z = .int .i64 c ∧ Counted T.zs k a b c) (fun _ _ _ _ i => T.zs.length - (intOf i).toNat)
    case atStart => exact ⟨0, 0, 0, 0, Nat.zero_le _, rfl, rfl, rfl, rfl, Counted.zero _⟩
    case round =>
      obtain ⟨k, n1, n2, n3, hk, rfl, rfl, rfl, rfl, hc⟩ := hrel
      obtain ⟨⟨b1, b2⟩, ⟨b3, b4⟩, ⟨b5, b6⟩⟩ := hc.bounds
      have C := Lib.hid hc
      clear hc
      by_cases hlt : k < T.zs.length
      · obtain ⟨b, o, x, rfl, q, X⟩ := I.out.at hlt
        cases e1 : (x == -1)
        · cases e2 : (x == -2)
          · go_wp2
            go_round
            case rel => exact ⟨k + 1, n1 + 1, n2, n3, by omega, by go_num, rfl, rfl, rfl, C.out.key hlt X.out e1 e2⟩
            case measure => simp [intOf]; omega
          · go_wp2
            go_round
            case rel => exact ⟨k + 1, n1, n2 + 1, n3, by omega, by go_num, rfl, rfl, rfl, C.out.tomb hlt X.out e2⟩
            case measure => simp [intOf]; omega
        · go_wp2
          go_round
          case rel => exact ⟨k + 1, n1, n2, n3 + 1, by omega, by go_num, rfl, rfl, rfl, C.out.free hlt X.out e1⟩
          case measure => simp [intOf]; omega
      · go_wp2
        go_ret3
        have e : k = T.zs.length := by omega
        obtain ⟨g1, g2, g3⟩ := count_yes hv
        obtain ⟨c1, c2, c3⟩ := C.out
        rw [e] at c1 c2 c3
        exact ⟨ret_three (c1.trans g1) (c2.trans g2) (c3.trans g3), S1.old⟩

end Go.Proofs.YtkdkdmjhhgllgaaGreatDoor

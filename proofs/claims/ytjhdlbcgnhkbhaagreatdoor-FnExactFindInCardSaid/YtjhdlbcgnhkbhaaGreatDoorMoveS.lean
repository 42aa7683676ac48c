/-
  MoveValid: the model's.
-/
import Derived.Test.YtjhdlbcgnhkbhaaGreatDoorMove
import Derived.Test.YtjhdlbcgnhkbhaaGreatDoorLost
import Derived.Test.YtjhdlbcgnhkbhaaGreatDoorCount
namespace Go.Proofs.YtjhdlbcgnhkbhaaGreatDoor
open Go.RowKit

theorem bad_step {M : Mov} {k : Nat} (h : ∀ i, i < k → badK M i = false) (hx : badK M k = false) : ∀ i, i < k + 1 → badK M i = false := fun i hi => by
  by_cases e : i = k
  · subst e; exact hx
  · exact h i (by omega)

set_option maxHeartbeats 4000000 in
theorem specMoveValid_any (M : Mov) (a1 : Option Addr) (c1 : Nat) (a2 : Option Addr) (c2 : Nat) (w : World) (hx1 : M.o.zs.length ≤ 9223372036854775807) (hx2 : M.n.zs.length ≤ 9223372036854775807) (h1 : IntsAt w a1 M.o.zs) (h2 : IntsAt w a2 M.n.zs) :
    Calls Tryz.prog 18 #[movV M a1 c1 a2 c2] w fun e w' => e = .returned (.bool (movB M)) ∧ Below w.heap.size w w' := by
  have S0 := (((St.start w).read h1).read h2).alloc (movC M a1 c1 a2 c2) 32
  obtain ⟨x0, x1, x2, x3, x4, x5, x6, xz⟩ := facts7 (S0.cells 0 rfl)
  cases hs1 : soundB M.o
  · have R : Hid (movB M = false) := Lib.hid (movB_no (by simp [headM, hs1]))
    go_enter Tryz.func18, Tryz.ntmps18
    go_wp2_with fail
    refine (specIsSound_any M.o a1 c1 _ hx1 (by exact S0.reads 2 rfl)).mono ?_
    rw [hs1]
    rintro e w1 ⟨rfl, hb⟩
    have S1 := S0.below hb
    clear S0 hb x0 x1 x2 x3 x4 x5 x6 xz
    obtain ⟨x0, x1, x2, x3, x4, x5, x6, xz⟩ := facts7 (S1.cells 0 rfl)
    go_wp2_with fail
    go_ret
    exact ⟨ret_bool R.out.symm, S1.old⟩
  have V1 := sound_valid hs1
  cases hs2 : soundB M.n
  · have R : Hid (movB M = false) := Lib.hid (movB_no (by simp [headM, hs2]))
    go_enter Tryz.func18, Tryz.ntmps18
    go_wp2_with fail
    refine (specIsSound_any M.o a1 c1 _ hx1 (by exact S0.reads 2 rfl)).mono ?_
    rw [hs1]
    rintro e w1 ⟨rfl, hb⟩
    have S1 := S0.below hb
    clear S0 hb x0 x1 x2 x3 x4 x5 x6 xz
    obtain ⟨x0, x1, x2, x3, x4, x5, x6, xz⟩ := facts7 (S1.cells 0 rfl)
    go_wp2_with fail
    refine (specIsSound_any M.n a2 c2 _ hx2 (by exact S1.reads 1 rfl)).mono ?_
    rw [hs2]
    rintro e w2 ⟨rfl, hb⟩
    have S2 := S1.below hb
    clear S1 hb x0 x1 x2 x3 x4 x5 x6 xz
    obtain ⟨x0, x1, x2, x3, x4, x5, x6, xz⟩ := facts7 (S2.cells 0 rfl)
    go_wp2_with fail
    go_ret
    exact ⟨ret_bool R.out.symm, S2.old⟩
  have V2 := sound_valid hs2
  obtain ⟨⟨l1, l2⟩, _⟩ := valid_facts V1
  obtain ⟨⟨l3, l4⟩, _⟩ := valid_facts V2
  by_cases ht : M.o.t = M.n.t
  case neg =>
    have t0 : (M.o.t != M.n.t) = true := by simp [ht]
    have R : Hid (movB M = false) := Lib.hid (movB_no (by simp [headM, ht]))
    clear ht
    go_enter Tryz.func18, Tryz.ntmps18
    go_wp2_with fail
    refine (specIsSound_any M.o a1 c1 _ hx1 (by exact S0.reads 2 rfl)).mono ?_
    rw [hs1]
    rintro e w1 ⟨rfl, hb⟩
    have S1 := S0.below hb
    clear S0 hb x0 x1 x2 x3 x4 x5 x6 xz
    obtain ⟨x0, x1, x2, x3, x4, x5, x6, xz⟩ := facts7 (S1.cells 0 rfl)
    go_wp2_with fail
    refine (specIsSound_any M.n a2 c2 _ hx2 (by exact S1.reads 1 rfl)).mono ?_
    rw [hs2]
    rintro e w2 ⟨rfl, hb⟩
    have S2 := S1.below hb
    clear S1 hb x0 x1 x2 x3 x4 x5 x6 xz
    obtain ⟨x0, x1, x2, x3, x4, x5, x6, xz⟩ := facts7 (S2.cells 0 rfl)
    go_wp2_with fail
    go_ret
    exact ⟨ret_bool R.out.symm, S2.old⟩
  by_cases hp : M.o.p = M.n.p
  case neg =>
    have t0 : (M.o.t != M.n.t) = false := by simp [ht]
    have p0 : (M.o.p != M.n.p) = true := by simp [hp]
    have R : Hid (movB M = false) := Lib.hid (movB_no (by simp [headM, hp]))
    clear ht hp
    go_enter Tryz.func18, Tryz.ntmps18
    go_wp2_with fail
    refine (specIsSound_any M.o a1 c1 _ hx1 (by exact S0.reads 2 rfl)).mono ?_
    rw [hs1]
    rintro e w1 ⟨rfl, hb⟩
    have S1 := S0.below hb
    clear S0 hb x0 x1 x2 x3 x4 x5 x6 xz
    obtain ⟨x0, x1, x2, x3, x4, x5, x6, xz⟩ := facts7 (S1.cells 0 rfl)
    go_wp2_with fail
    refine (specIsSound_any M.n a2 c2 _ hx2 (by exact S1.reads 1 rfl)).mono ?_
    rw [hs2]
    rintro e w2 ⟨rfl, hb⟩
    have S2 := S1.below hb
    clear S1 hb x0 x1 x2 x3 x4 x5 x6 xz
    obtain ⟨x0, x1, x2, x3, x4, x5, x6, xz⟩ := facts7 (S2.cells 0 rfl)
    go_wp2_with fail
    go_ret
    exact ⟨ret_bool R.out.symm, S2.old⟩
  have t0 : (M.o.t != M.n.t) = false := by simp [ht]
  have p0 : (M.o.p != M.n.p) = false := by simp [hp]
  cases hin : inB M.x 0 M.o.zs.length
  · have R : Hid (movB M = false) := Lib.hid (movB_no (by simp [headM, hin]))
    clear ht hp
    go_enter Tryz.func18, Tryz.ntmps18
    go_wp2_with fail
    refine (specIsSound_any M.o a1 c1 _ hx1 (by exact S0.reads 2 rfl)).mono ?_
    rw [hs1]
    rintro e w1 ⟨rfl, hb⟩
    have S1 := S0.below hb
    clear S0 hb x0 x1 x2 x3 x4 x5 x6 xz
    obtain ⟨x0, x1, x2, x3, x4, x5, x6, xz⟩ := facts7 (S1.cells 0 rfl)
    go_wp2_with fail
    refine (specIsSound_any M.n a2 c2 _ hx2 (by exact S1.reads 1 rfl)).mono ?_
    rw [hs2]
    rintro e w2 ⟨rfl, hb⟩
    have S2 := S1.below hb
    clear S1 hb x0 x1 x2 x3 x4 x5 x6 xz
    obtain ⟨x0, x1, x2, x3, x4, x5, x6, xz⟩ := facts7 (S2.cells 0 rfl)
    go_wp2_with (go_at_call 35; refine (l1In_any _ _ _ _).mono ?_; rintro e w' ⟨rfl, rfl⟩; rw [hin])
    go_ret
    exact ⟨ret_bool R.out.symm, S2.old⟩
  have HM : Hid (headM M = true) := Lib.hid (headM_iff.2 ⟨hs1, hs2, ht, hp, inB_iff.1 hin⟩)
  have HV := Lib.hid V1
  clear ht hp
  go_enter Tryz.func18, Tryz.ntmps18
  go_wp2_with fail
  refine (specIsSound_any M.o a1 c1 _ hx1 (by exact S0.reads 2 rfl)).mono ?_
  rw [hs1]
  rintro e w1 ⟨rfl, hb⟩
  have S1 := S0.below hb
  clear S0 hb x0 x1 x2 x3 x4 x5 x6 xz
  obtain ⟨x0, x1, x2, x3, x4, x5, x6, xz⟩ := facts7 (S1.cells 0 rfl)
  go_wp2_with fail
  refine (specIsSound_any M.n a2 c2 _ hx2 (by exact S1.reads 1 rfl)).mono ?_
  rw [hs2]
  rintro e w2 ⟨rfl, hb⟩
  have S2 := S1.below hb
  clear S1 hb x0 x1 x2 x3 x4 x5 x6 xz
  obtain ⟨x0, x1, x2, x3, x4, x5, x6, xz⟩ := facts7 (S2.cells 0 rfl)
  go_wp2_with (go_at_call 35; refine (l1In_any _ _ _ _).mono ?_; rintro e w' ⟨rfl, rfl⟩; rw [hin])
  go_loop [3, 4, 5, 51] (fun q _ _ i => ∃ k : Nat, k ≤ M.o.zs.length ∧ i = .int .i64 k ∧ q = .int .i64 (cnt keyP M.o.zs k) ∧ Hid (∀ i, i < k → badK M i = false)) (fun _ _ _ i => M.o.zs.length - (intOf i).toNat)
  case atStart => exact ⟨0, Nat.zero_le _, rfl, rfl, Lib.hid (fun i hi => by omega)⟩
  case round =>
    obtain ⟨k, hk, rfl, rfl, HB⟩ := hrel
    by_cases hlt : k < M.o.zs.length
    · obtain ⟨b, o, x, e1, q, X⟩ := (S2.reads 2 rfl).at hlt
      have hcl := cnt_le keyP M.o.zs k
      have HS : Hid (cnt keyP M.o.zs (k + 1) = cnt keyP M.o.zs k + if 0 ≤ x then 1 else 0) := Lib.hid (by have := cntK_step HV.out hlt; rw [X.out] at this; exact this)
      have HK : Hid (badK M k = (decide (0 ≤ x) && (decide ((k : Int) < M.x) || decide (0 ≤ fnd M.n.zs x)))) := Lib.hid (by rw [badK, X.out])
      subst e1
      have hI := Lib.hid (S2.reads 1 rfl)
      by_cases h0 : 0 ≤ x
      · have d0 : decide (0 ≤ x) = true := decide_eq_true h0
        rw [if_pos h0] at HS
        rw [d0, Bool.true_and] at HK
        by_cases hk2 : (k : Int) < M.x
        · have d1 : decide ((k : Int) < M.x) = true := decide_eq_true hk2
          have R : Hid (movB M = false) := Lib.hid (movB_bad hlt (by rw [HK.out, d1]; rfl))
          go_wp2_with fail
          go_ret
          exact ⟨ret_bool R.out.symm, S2.old⟩
        · have d1 : decide ((k : Int) < M.x) = false := decide_eq_false hk2
          rw [d1, Bool.false_or] at HK
          cases d2 : decide (0 ≤ fnd M.n.zs x)
          · have HB2 := Lib.hid (bad_step HB.out (by rw [HK.out, d2]))
            go_wp2_with (go_at_call 36; refine (l1Find_any _ _ _ _ _ hx2 hI.out).mono ?_; rintro e w' ⟨rfl, rfl⟩)
            go_round
            case rel => exact ⟨k + 1, by omega, by go_num, by rw [HS.out]; go_num, HB2⟩
            case measure => simp [intOf]; omega
          · have R : Hid (movB M = false) := Lib.hid (movB_bad hlt (by rw [HK.out, d2]))
            go_wp2_with (go_at_call 36; refine (l1Find_any _ _ _ _ _ hx2 hI.out).mono ?_; rintro e w' ⟨rfl, rfl⟩)
            go_ret
            exact ⟨ret_bool R.out.symm, S2.old⟩
      · have d0 : decide (0 ≤ x) = false := decide_eq_false h0
        rw [if_neg h0] at HS
        rw [d0, Bool.false_and] at HK
        have HB2 := Lib.hid (bad_step HB.out HK.out)
        by_cases hk2 : (k : Int) < M.x
        · have d1 : decide ((k : Int) < M.x) = true := decide_eq_true hk2
          go_wp2_with fail
          go_round
          case rel => exact ⟨k + 1, by omega, by go_num, by rw [HS.out]; rfl, HB2⟩
          case measure => simp [intOf]; omega
        · have d1 : decide ((k : Int) < M.x) = false := decide_eq_false hk2
          go_wp2_with fail
          go_round
          case rel => exact ⟨k + 1, by omega, by go_num, by rw [HS.out]; rfl, HB2⟩
          case measure => simp [intOf]; omega
    · obtain rfl : k = M.o.zs.length := by omega
      have hct : 0 ≤ countT M.n ∧ countT M.n ≤ 16 ∧ 0 ≤ countF M.n ∧ countF M.n ≤ 16 := by
        have a := cnt_le tombP M.n.zs M.n.zs.length
        have b := cnt_le freeP M.n.zs M.n.zs.length
        simp only [countT, countF, V2, if_true]
        omega
      have R : Hid (movB M = decide ((cnt keyP M.o.zs M.o.zs.length : Int) ≤ countT M.n + countF M.n)) := Lib.hid (by rw [movB_all HM.out HB.out, fits_count HM.out])
      generalize cnt keyP M.o.zs M.o.zs.length = kc at R ⊢
      have HC := Lib.hid fun (W : World) (h : IntsAt W a2 M.n.zs) => specCountSlots_any M.n a2 c2 W hx2 h
      generalize countT M.n = ct at hct R HC
      generalize countF M.n = cf at hct R HC
      generalize countK M.n = ck at HC
      go_wp2_with fail
      refine (HC.out _ (by exact S2.reads 1 rfl)).mono ?_
      rintro e w3 ⟨rfl, hb⟩
      have S3 := S2.below hb
      go_wp2_with fail
      go_ret
      exact ⟨ret_bool R.out.symm, S3.old⟩

end Go.Proofs.YtjhdlbcgnhkbhaaGreatDoor

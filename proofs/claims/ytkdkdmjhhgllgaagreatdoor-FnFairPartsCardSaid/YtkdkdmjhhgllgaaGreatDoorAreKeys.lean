/-
  Whether numbers are keys, and not too many: the program's and the model's.
-/
import Derived.Test.YtkdkdmjhhgllgaaGreatDoorBase
import Derived.Test.YtkdkdmjhhgllgaaGreatDoorMath
namespace Go.Proofs.YtkdkdmjhhgllgaaGreatDoor
open Go.RowKit

set_option maxHeartbeats 400000 in
theorem areKeys1_any (n : Int) (w : World) :
    Calls Tryz.prog 48 #[.int .i64 n] w fun e w' => e = .returned (.bool (!inB n 0 99)) ∧ w = w' := by
  go_enter Tryz.func48, Tryz.ntmps48
  go_wp2_with (go_at_call 49; refine (isKey_any _ _).mono ?_; rintro e w' ⟨rfl, rfl⟩)
  go_ret
  exact ⟨rfl, rfl⟩

theorem all_step {ks : List Int} {k : Nat} (h : ∀ j, j < k → inB (nth ks j) 0 99 = true) (hx : inB (nth ks k) 0 99 = true) : ∀ j, j < k + 1 → inB (nth ks j) 0 99 = true := fun j hj => by
  by_cases e : j = k
  · subst e; exact hx
  · exact h j (by omega)
theorem all_yes {ks : List Int} (h : ∀ j, j < ks.length → inB (nth ks j) 0 99 = true) : (ks.all fun x => inB x 0 99) = true := by
  rw [List.all_eq_true]
  intro x hx
  obtain ⟨i, hi, e⟩ := mem_nth hx
  rw [← e]; exact h i hi
theorem all_no {ks : List Int} {k : Nat} (hk : k < ks.length) (hx : inB (nth ks k) 0 99 = false) : (ks.all fun x => inB x 0 99) = false := by
  rw [Bool.eq_false_iff]
  intro h
  rw [List.all_eq_true] at h
  have := h _ (nth_mem hk)
  rw [hx] at this
  cases this

set_option maxHeartbeats 1000000 in
theorem indexKeys_any (ks : List Int) (a : Option Addr) (c : Nat) (w : World) (hl : ks.length ≤ 9223372036854775806) (h1 : IntsAt w a ks) :
    Calls Tryz.prog 82 #[.slice a ks.length c, .func (.func 48) #[] #[]] w fun e w' => (∃ v : Int, e = .returned (.int .i64 v) ∧ decide (0 ≤ v) = !(ks.all fun x => inB x 0 99)) ∧ w' = w := by
  go_enter Tryz.func82, Tryz.ntmps82
  go_wp2
  go_loopw [5, 8] (fun _ i wr => ∃ k : Nat, k ≤ ks.length ∧ i = .int .i64 k ∧ Hid (∀ j, j < k → inB (nth ks j) 0 99 = true) ∧ wr = w) (fun _ i _ => ks.length - (intOf i).toNat)
  case atStart => exact ⟨0, Nat.zero_le _, rfl, Lib.hid (fun j hj => by omega), rfl⟩
  case round =>
    obtain ⟨k, hk, rfl, H, rfl⟩ := hrel
    by_cases hlt : k < ks.length
    · have k0 : (0 : Int) ≤ (k : Int) := by omega
      have k1 : (k : Int) < (ks.length : Int) := by omega
      obtain ⟨b, o, x, rfl, q, X⟩ := h1.at hlt
      cases hx : inB x 0 99
      · have R : Hid ((ks.all fun x => inB x 0 99) = false) := Lib.hid (all_no hlt (by rw [X.out]; exact hx))
        have d : decide ((0 : Int) ≤ (k : Int)) = true := decide_eq_true k0
        have D := Lib.hid d
        clear d
        go_wp2_with (go_at_call 48; refine (areKeys1_any _ _).mono ?_; rintro e w' ⟨rfl, rfl⟩; rw [hx])
        go_ret
        exact ⟨⟨_, rfl, by rw [R.out]; exact D.out⟩, rfl⟩
      · have H2 := Lib.hid (all_step H.out (by rw [X.out]; exact hx))
        go_wp2_with (go_at_call 48; refine (areKeys1_any _ _).mono ?_; rintro e w' ⟨rfl, rfl⟩; rw [hx])
        go_roundw
        case rel => exact ⟨k + 1, by omega, by go_num, H2, trivial⟩
        case measure => simp [intOf]; omega
    · obtain rfl : k = ks.length := by omega
      have R : Hid ((ks.all fun x => inB x 0 99) = true) := Lib.hid (all_yes H.out)
      go_wp2
      go_ret
      exact ⟨⟨-1, rfl, by rw [R.out]; rfl⟩, rfl⟩

set_option maxHeartbeats 400000 in
theorem containsKeys_any (ks : List Int) (a : Option Addr) (c : Nat) (w : World) (hl : ks.length ≤ 9223372036854775806) (h1 : IntsAt w a ks) :
    Calls Tryz.prog 47 #[.slice a ks.length c, .func (.func 48) #[] #[]] w fun e w' => e = .returned (.bool (!(ks.all fun x => inB x 0 99))) ∧ w' = w := by
  go_enter Tryz.func47, Tryz.ntmps47
  go_wp2_with fail
  refine (indexKeys_any ks a c w hl h1).mono ?_
  rintro e w' ⟨⟨v, rfl, hv⟩, rfl⟩
  have V := Lib.hid hv
  clear hv
  go_wp2
  go_ret
  exact ⟨by rw [← V.out]; rfl, rfl⟩

set_option maxHeartbeats 400000 in
theorem areKeys_any (ks : List Int) (a : Option Addr) (c : Nat) (w : World) (hl : ks.length ≤ 9223372036854775806) (h1 : IntsAt w a ks) :
    Calls Tryz.prog 19 #[.slice a ks.length c] w fun e w' => e = .returned (.bool (keysB ks)) ∧ w' = w := by
  have HK : Hid (keysB ks = (decide ((ks.length : Int) ≤ 100) && ks.all fun x => inB x 0 99)) := Lib.hid (by
    unfold keysB
    congr 1
    rw [Bool.eq_iff_iff]
    simp
    omega)
  by_cases hle : (ks.length : Int) ≤ 100
  · have d : decide ((ks.length : Int) ≤ 100) = true := decide_eq_true hle
    rw [d, Bool.true_and] at HK
    cases hall : (ks.all fun x => inB x 0 99)
    · rw [hall] at HK
      go_enter Tryz.func19, Tryz.ntmps19
      go_wp2_with fail
      refine (containsKeys_any ks a c w hl h1).mono ?_
      rw [hall]
      rintro e w' ⟨rfl, rfl⟩
      go_wp2
      go_ret
      exact ⟨by rw [HK.out]; rfl, rfl⟩
    · rw [hall] at HK
      go_enter Tryz.func19, Tryz.ntmps19
      go_wp2_with fail
      refine (containsKeys_any ks a c w hl h1).mono ?_
      rw [hall]
      rintro e w' ⟨rfl, rfl⟩
      go_wp2
      go_ret
      exact ⟨by rw [HK.out]; rfl, rfl⟩
  · have d : decide ((ks.length : Int) ≤ 100) = false := decide_eq_false hle
    rw [d, Bool.false_and] at HK
    go_enter Tryz.func19, Tryz.ntmps19
    go_wp2
    go_ret
    exact ⟨by rw [HK.out]; rfl, rfl⟩

set_option maxHeartbeats 1000000 in
theorem l3Keys_any (ks : List Int) (a : Option Addr) (c : Nat) (w : World) (hl : ks.length ≤ 9223372036854775806) (h1 : IntsAt w a ks) :
    Calls Tryz.prog 24 #[.slice a ks.length c] w fun e w' => e = .returned (.bool (keysB ks)) ∧ w' = w := by
  have HK : Hid (keysB ks = (decide ((ks.length : Int) ≤ 100) && ks.all fun x => inB x 0 99)) := Lib.hid (by
    unfold keysB
    congr 1
    rw [Bool.eq_iff_iff]
    simp
    omega)
  go_enter Tryz.func24, Tryz.ntmps24
  go_wp2
  go_loopw [4, 7] (fun _ i wr => ∃ k : Nat, k ≤ ks.length ∧ i = .int .i64 k ∧ Hid (∀ j, j < k → inB (nth ks j) 0 99 = true) ∧ wr = w) (fun _ i _ => ks.length - (intOf i).toNat)
  case atStart => exact ⟨0, Nat.zero_le _, rfl, Lib.hid (fun j hj => by omega), rfl⟩
  case round =>
    obtain ⟨k, hk, rfl, H, rfl⟩ := hrel
    by_cases hlt : k < ks.length
    · have k0 : (0 : Int) ≤ (k : Int) := by omega
      have k1 : (k : Int) < (ks.length : Int) := by omega
      obtain ⟨b, o, x, rfl, q, X⟩ := h1.at hlt
      cases hx : inB x 0 99
      · have R : Hid (keysB ks = false) := Lib.hid (by rw [HK.out, all_no hlt (by rw [X.out]; exact hx), Bool.and_false])
        go_wp2_with (go_at_call 56; refine (l1Key_any _ _).mono ?_; rintro e w' ⟨rfl, rfl⟩; rw [hx])
        go_ret
        exact ⟨by rw [R.out]; rfl, rfl⟩
      · have H2 := Lib.hid (all_step H.out (by rw [X.out]; exact hx))
        go_wp2_with (go_at_call 56; refine (l1Key_any _ _).mono ?_; rintro e w' ⟨rfl, rfl⟩; rw [hx])
        go_roundw
        case rel => exact ⟨k + 1, by omega, by go_num, H2, trivial⟩
        case measure => simp [intOf]; omega
    · obtain rfl : k = ks.length := by omega
      have R : Hid (keysB ks = decide ((ks.length : Int) ≤ 100)) := Lib.hid (by rw [HK.out, all_yes H.out, Bool.and_true])
      go_wp2
      go_ret
      exact ⟨ret_bool R.out.symm, rfl⟩

end Go.Proofs.YtkdkdmjhhgllgaaGreatDoor

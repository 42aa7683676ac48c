/-
  ShareOf: the program and the model.
-/
import Derived.Test.YtddomanabcmnpaaPick
import Derived.Test.YtddomanabcmnpaaMath
namespace Go.Proofs.Ytddomanabcmnpaa
open Go.RowKit

set_option maxRecDepth 100000 in
set_option maxHeartbeats 1000000 in
theorem ShareOf_any (a b : Int) (w : World) (ha : a ≤ 9223372036854775807) (hb : b ≤ 9223372036854775807) :
    Calls Try.prog 23 #[.int .i64 a, .int .i64 b] w fun e w' => e = .returned (.int .i64 (shareI a b)) ∧ ∃ n, w' = w.drewN n := by
  by_cases h0 : a < 0
  · have R := Lib.hid (shareI_no (a := a) (b := b) (.inl h0))
    go_enter Try.func23, Try.ntmps23
    go_wp2
    go_ret
    exact ⟨by rw [R.out]; rfl, 0, rfl⟩
  by_cases h1 : b < 0
  · have R := Lib.hid (shareI_no (a := a) (b := b) (.inr h1))
    go_enter Try.func23, Try.ntmps23
    go_wp2
    go_ret
    exact ⟨by rw [R.out]; rfl, 0, rfl⟩
  obtain ⟨A, rfl⟩ := Int.eq_ofNat_of_zero_le (show 0 ≤ a by omega)
  obtain ⟨B, rfl⟩ := Int.eq_ofNat_of_zero_le (show 0 ≤ b by omega)
  have R := Lib.hid (shareI_nat A B)
  go_enter Try.func23, Try.ntmps23
  go_wp2
  clear h0 h1
  go_loopw [0, 1] (fun x y wr => ∃ X Y q : Nat, x = .int .i64 X ∧ y = .int .i64 Y ∧ X ≤ 9223372036854775807 ∧ Y ≤ 9223372036854775807 ∧ Nat.gcd X Y = Nat.gcd A B ∧ wr = w.drewN q) (fun _ y _ => (intOf y).toNat)
  case atStart => exact ⟨A, B, 0, rfl, rfl, by omega, by omega, rfl, rfl⟩
  case round =>
    obtain ⟨X, Y, q, rfl, rfl, hX, hY, hg, rfl⟩ := hrel
    have HG := Lib.hid hg
    clear hg ha hb
    by_cases hlt : 0 < Y
    · have hm : X % Y < Y := Nat.mod_lt _ hlt
      have H2 := Lib.hid ((Nat.gcd_comm Y (X % Y)).trans ((Nat.gcd_rec Y X).symm.trans ((Nat.gcd_comm Y X).trans HG.out)))
      have w1 : ((X : Int)).tmod (Y : Int) = ((X % Y : Nat) : Int) := by rw [Int.tmod_eq_emod_of_nonneg (by omega)]; exact (Int.natCast_emod X Y).symm
      have w2 : ((X : Int)) % (Y : Int) = ((X % Y : Nat) : Int) := (Int.natCast_emod X Y).symm
      have w3 : ((Y : Int) == 0) = false := beq_eq_false_iff_ne.2 (by omega)
      generalize X % Y = Z at hm w1 w2 H2
      go_wp2
      go_quiet (fail)
      go_wp2
      go_roundw
      case rel =>
        obtain ⟨m, hm'⟩ := drewN_two w q _
        exact ⟨Y, Z, m, rfl, by go_num, by omega, by omega, H2.out, hm'⟩
      case measure => simp [intOf]; omega
    · obtain rfl : Y = 0 := by omega
      have e : X = Nat.gcd A B := by rw [← HG.out]; exact (Nat.gcd_zero_right X).symm
      have E := Lib.hid e
      clear e
      go_wp2
      go_ret
      exact ⟨by rw [R.out, ← E.out]; rfl, _, rfl⟩

set_option maxRecDepth 100000 in
set_option maxHeartbeats 1000000 in
theorem specShareOf_any (a b : Int) (w : World) (ha : a ≤ 9223372036854775807) (hb : b ≤ 9223372036854775807) :
    Calls Try.prog 32 #[.int .i64 a, .int .i64 b] w fun e w' => e = .returned (.int .i64 (shareI a b)) ∧ w = w' := by
  by_cases h0 : a < 0
  · have R := Lib.hid (shareI_no (a := a) (b := b) (.inl h0))
    go_enter Try.func32, Try.ntmps32
    go_wp2
    go_ret
    exact ⟨by rw [R.out]; rfl, rfl⟩
  by_cases h1 : b < 0
  · have R := Lib.hid (shareI_no (a := a) (b := b) (.inr h1))
    go_enter Try.func32, Try.ntmps32
    go_wp2
    go_ret
    exact ⟨by rw [R.out]; rfl, rfl⟩
  obtain ⟨A, rfl⟩ := Int.eq_ofNat_of_zero_le (show 0 ≤ a by omega)
  obtain ⟨B, rfl⟩ := Int.eq_ofNat_of_zero_le (show 0 ≤ b by omega)
  have R := Lib.hid (shareI_nat A B)
  go_enter Try.func32, Try.ntmps32
  go_wp2
  clear h0 h1
  go_loop [0, 1, 5] (fun x y _ => ∃ X Y : Nat, x = .int .i64 X ∧ y = .int .i64 Y ∧ X ≤ 9223372036854775807 ∧ Y ≤ 9223372036854775807 ∧ Nat.gcd X Y = Nat.gcd A B) (fun _ y _ => (intOf y).toNat)
  case atStart => exact ⟨A, B, rfl, rfl, by omega, by omega, rfl⟩
  case round =>
    obtain ⟨X, Y, rfl, rfl, hX, hY, hg⟩ := hrel
    have HG := Lib.hid hg
    clear hg ha hb
    by_cases hlt : 0 < Y
    · have hm : X % Y < Y := Nat.mod_lt _ hlt
      have H2 := Lib.hid ((Nat.gcd_comm Y (X % Y)).trans ((Nat.gcd_rec Y X).symm.trans ((Nat.gcd_comm Y X).trans HG.out)))
      have w1 : ((X : Int)).tmod (Y : Int) = ((X % Y : Nat) : Int) := by rw [Int.tmod_eq_emod_of_nonneg (by omega)]; exact (Int.natCast_emod X Y).symm
      have w2 : ((X : Int)) % (Y : Int) = ((X % Y : Nat) : Int) := (Int.natCast_emod X Y).symm
      have w3 : ((Y : Int) == 0) = false := beq_eq_false_iff_ne.2 (by omega)
      generalize X % Y = Z at hm w1 w2 H2
      go_wp2
      go_round
      case rel => exact ⟨Y, Z, rfl, by go_num, by omega, by omega, H2.out⟩
      case measure => simp [intOf]; omega
    · obtain rfl : Y = 0 := by omega
      have e : X = Nat.gcd A B := by rw [← HG.out]; exact (Nat.gcd_zero_right X).symm
      have E := Lib.hid e
      clear e
      go_wp2
      go_ret
      exact ⟨by rw [R.out, ← E.out]; rfl, rfl⟩

theorem shareI_below (a b : Int) (w : World) (ha : a ≤ 9223372036854775807) (hb : b ≤ 9223372036854775807) :
    Calls Try.prog 23 #[.int .i64 a, .int .i64 b] w fun e w' => e = .returned (.int .i64 (shareI a b)) ∧ Below w.heap.size w w' := by
  refine (ShareOf_any a b w ha hb).mono ?_
  rintro e w' ⟨rfl, n, rfl⟩
  exact ⟨rfl, below_drewN (Below.refl _ _) n⟩
theorem shareS_below (a b : Int) (w : World) (ha : a ≤ 9223372036854775807) (hb : b ≤ 9223372036854775807) :
    Calls Try.prog 32 #[.int .i64 a, .int .i64 b] w fun e w' => e = .returned (.int .i64 (shareI a b)) ∧ Below w.heap.size w w' := by
  refine (specShareOf_any a b w ha hb).mono ?_
  rintro e w' ⟨rfl, rfl⟩
  exact ⟨rfl, Below.refl _ _⟩
theorem wf_i64 {a : Int} (h : (Lit.int .i64 a).wf = true) : -9223372036854775808 ≤ a ∧ a ≤ 9223372036854775807 := by
  simp only [Lit.wf, Bool.and_eq_true, decide_eq_true_eq] at h
  have e1 : IntKind.i64.min = -9223372036854775808 := by decide
  have e2 : IntKind.i64.max = 9223372036854775807 := by decide
  rw [e1, e2] at h
  exact h

end Go.Proofs.Ytddomanabcmnpaa

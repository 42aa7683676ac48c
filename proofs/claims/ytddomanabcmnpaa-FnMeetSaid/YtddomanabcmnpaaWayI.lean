/-
  Ways around: the program's wayBy, walkerOn, next, pull.
-/
import Derived.Test.YtddomanabcmnpaaSort
import Derived.Test.YtddomanabcmnpaaMath
import Derived.Deep.RegionHeld3
namespace Go.Proofs.Ytddomanabcmnpaa
open Go.RowKit

/-- A way as the program holds it. -/
def wayV (k s : Nat) : Value := if k = 1 then .iface 81 (.int .i64 s) else if k = 2 then .iface 82 (.int .i64 s) else .iface 80 (.int .i64 s)

theorem wayV_0 (s : Nat) : wayV 0 s = .iface 80 (.int .i64 s) := rfl
theorem wayV_1 (s : Nat) : wayV 1 s = .iface 81 (.int .i64 s) := rfl
theorem wayV_2 (s : Nat) : wayV 2 s = .iface 82 (.int .i64 s) := rfl

theorem wayBy_yes (k s : Nat) (w : World) (hk : k ≤ 2) (hs : s ≤ 16) :
    Calls Try.prog 57 #[.int .i64 k, .int .i64 s] w fun e w' => e = .returned (.tuple #[wayV k s, .bool true]) ∧ w = w' := by
  have hk' : k = 0 ∨ k = 1 ∨ k = 2 := by omega
  rcases hk' with rfl | rfl | rfl
  all_goals
    go_enter Try.func57, Try.ntmps57
    go_wp2
    go_ret2
    exact ⟨rfl, rfl⟩

theorem wayBy_no (k s : Int) (w : World) (h : inB k 0 2 = false ∨ inB s 0 16 = false) :
    Calls Try.prog 57 #[.int .i64 k, .int .i64 s] w fun e w' => e = .returned (.tuple #[.nilIface, .bool false]) ∧ w = w' := by
  by_cases h1 : s < 0
  · go_enter Try.func57, Try.ntmps57
    go_wp2
    go_ret2
    exact ⟨rfl, rfl⟩
  by_cases h2 : 16 < s
  · have h3 : decide (s < 0) = false := decide_eq_false h1
    go_enter Try.func57, Try.ntmps57
    go_wp2
    go_ret2
    exact ⟨rfl, rfl⟩
  have hk : inB k 0 2 = false := by
    rcases h with h | h
    · exact h
    · have := inB_false.1 h; omega
  have hk' := inB_false.1 hk
  have e0 : (k == 0) = false := beq_eq_false_iff_ne.2 (by omega)
  have e1 : (k == 1) = false := beq_eq_false_iff_ne.2 (by omega)
  have e2 : (k == 2) = false := beq_eq_false_iff_ne.2 (by omega)
  clear hk hk' h
  go_enter Try.func57, Try.ntmps57
  go_wp2
  go_ret2
  exact ⟨rfl, rfl⟩

theorem walkerOn_yes (n k s h : Nat) (w : World) (n1 : 1 ≤ n) (n2 : n ≤ 16) (hk : k ≤ 2) (hs : s ≤ 16) (hh : h < n) :
    Calls Try.prog 49 #[.int .i64 n, .int .i64 k, .int .i64 s, .int .i64 h] w fun e w' => e = .returned (.tuple #[.pointer (some ⟨w.heap.size, 0, none⟩), .bool true]) ∧
      w' = w.alloc (.cells #[wayV k s, .int .i64 n, .int .i64 h, .int .i64 0] 79) := by
  have B := Lib.hid (inB_true (n := (n : Int)) (lo := 1) (hi := 16) (by omega))
  have hk' : k = 0 ∨ k = 1 ∨ k = 2 := by omega
  rcases hk' with rfl | rfl | rfl
  · go_enter Try.func49, Try.ntmps49
    go_wp2_with (first | (go_at_call 57; refine (wayBy_yes 0 _ _ hk hs).mono ?_; rw [wayV_0]; rintro e w' ⟨rfl, rfl⟩) | (go_at_call 53; refine (isSize_any _ _).mono ?_; rintro e w' ⟨rfl, rfl⟩; rw [B.out]))
    go_ret2
    exact ⟨rfl, rfl⟩
  · go_enter Try.func49, Try.ntmps49
    go_wp2_with (first | (go_at_call 57; refine (wayBy_yes 1 _ _ hk hs).mono ?_; rw [wayV_1]; rintro e w' ⟨rfl, rfl⟩) | (go_at_call 53; refine (isSize_any _ _).mono ?_; rintro e w' ⟨rfl, rfl⟩; rw [B.out]))
    go_ret2
    exact ⟨rfl, rfl⟩
  · go_enter Try.func49, Try.ntmps49
    go_wp2_with (first | (go_at_call 57; refine (wayBy_yes 2 _ _ hk hs).mono ?_; rw [wayV_2]; rintro e w' ⟨rfl, rfl⟩) | (go_at_call 53; refine (isSize_any _ _).mono ?_; rintro e w' ⟨rfl, rfl⟩; rw [B.out]))
    go_ret2
    exact ⟨rfl, rfl⟩

theorem walkerOn_no (n k s h : Int) (w : World) (hn : asksW n k s h = false) :
    Calls Try.prog 49 #[.int .i64 n, .int .i64 k, .int .i64 s, .int .i64 h] w fun e w' => e = .returned (.tuple #[.pointer none, .bool false]) ∧ w = w' := by
  by_cases h1 : inB k 0 2 = false ∨ inB s 0 16 = false
  · go_enter Try.func49, Try.ntmps49
    go_wp2_with (first | (go_at_call 57; refine (wayBy_no _ _ _ h1).mono ?_; rintro e w' ⟨rfl, rfl⟩))
    go_ret2
    exact ⟨rfl, rfl⟩
  have h2 : inB k 0 2 = true := by cases h : inB k 0 2 with | true => rfl | false => exact absurd (.inl h) h1
  have h3 : inB s 0 16 = true := by cases h : inB s 0 16 with | true => rfl | false => exact absurd (.inr h) h1
  obtain ⟨K, rfl⟩ := Int.eq_ofNat_of_zero_le (inB_iff.1 h2).1
  obtain ⟨S, rfl⟩ := Int.eq_ofNat_of_zero_le (inB_iff.1 h3).1
  have hk : K ≤ 2 := by have := (inB_iff.1 h2).2; omega
  have hs : S ≤ 16 := by have := (inB_iff.1 h3).2; omega
  have hn' : inB n 1 16 = false ∨ (inB n 1 16 = true ∧ ¬ (0 ≤ h ∧ h ≤ n - 1)) := by
    cases hb : inB n 1 16
    · exact .inl rfl
    · refine .inr ⟨rfl, inB_false.1 ?_⟩
      simpa [asksW, askW, hb, h2, h3] using hn
  clear h1 h2 h3 hn
  rcases hn' with h4 | ⟨h4, h5⟩
  · go_enter Try.func49, Try.ntmps49
    go_wp2_with (first | (go_at_call 57; refine (wayBy_yes _ _ _ hk hs).mono ?_; rintro e w' ⟨rfl, rfl⟩; generalize wayV K S = V) | (go_at_call 53; refine (isSize_any _ _).mono ?_; rintro e w' ⟨rfl, rfl⟩; rw [h4]))
    go_ret2
    exact ⟨rfl, rfl⟩
  · by_cases h6 : h < 0
    · go_enter Try.func49, Try.ntmps49
      go_wp2_with (first | (go_at_call 57; refine (wayBy_yes _ _ _ hk hs).mono ?_; rintro e w' ⟨rfl, rfl⟩; generalize wayV K S = V) | (go_at_call 53; refine (isSize_any _ _).mono ?_; rintro e w' ⟨rfl, rfl⟩; rw [h4]))
      go_ret2
      exact ⟨rfl, rfl⟩
    · have h7 : n ≤ h := by omega
      go_enter Try.func49, Try.ntmps49
      go_wp2_with (first | (go_at_call 57; refine (wayBy_yes _ _ _ hk hs).mono ?_; rintro e w' ⟨rfl, rfl⟩; generalize wayV K S = V) | (go_at_call 53; refine (isSize_any _ _).mono ?_; rintro e w' ⟨rfl, rfl⟩; rw [h4]))
      go_ret2
      exact ⟨rfl, rfl⟩

theorem more_int0 (s g x : Nat) : (x : Int) + (s : Int) = ((x + moreK 0 s g : Nat) : Int) := by simp [moreK]
theorem next0_any (s x g : Nat) (w : World) (hs : s ≤ 16) (hx : x ≤ 16) (hg : g ≤ 16) :
    Calls Try.prog 75 #[.int .i64 s, .int .i64 x, .int .i64 g] w fun e w' => e = .returned (.int .i64 ((x : Int) + ((moreK 0 s g : Nat) : Int))) ∧ w = w' := by
  have R := Lib.hid (show moreK 0 s g = s from rfl)
  go_enter Try.func75, Try.ntmps75
  go_wp2
  go_ret
  exact ⟨by rw [R.out]; rfl, rfl⟩
theorem next1_any (s x g : Nat) (w : World) (hs : s ≤ 16) (hx : x ≤ 16) (hg : g ≤ 16) :
    Calls Try.prog 76 #[.int .i64 s, .int .i64 x, .int .i64 g] w fun e w' => e = .returned (.int .i64 ((x : Int) + ((moreK 1 s g : Nat) : Int))) ∧ w = w' := by
  have hb : s * (g + 1) ≤ 272 := Nat.mul_le_mul hs (show g + 1 ≤ 17 by omega)
  have R := Lib.hid (show moreK 1 s g = s * (g + 1) from rfl)
  obtain ⟨p, hp⟩ : ∃ p, p = s * (g + 1) := ⟨_, rfl⟩
  have P1 : (s : Int) * ((g : Int) + 1) = (p : Int) := by rw [hp, Int.natCast_mul]; rfl
  rw [← hp] at hb R
  clear hp
  go_enter Try.func76, Try.ntmps76
  go_wp2
  go_ret
  exact ⟨by rw [R.out]; rfl, rfl⟩
theorem next2_any (s x g : Nat) (w : World) (hs : s ≤ 16) (hx : x ≤ 16) (hg : g ≤ 16) :
    Calls Try.prog 77 #[.int .i64 s, .int .i64 x, .int .i64 g] w fun e w' => e = .returned (.int .i64 ((x : Int) + ((moreK 2 s g : Nat) : Int))) ∧ w = w' := by
  have hb : s * (2 * g + 1) ≤ 528 := Nat.mul_le_mul hs (show 2 * g + 1 ≤ 33 by omega)
  have R := Lib.hid (show moreK 2 s g = s * (2 * g + 1) from rfl)
  obtain ⟨p, hp⟩ : ∃ p, p = s * (2 * g + 1) := ⟨_, rfl⟩
  have P1 : (s : Int) * (2 * (g : Int) + 1) = (p : Int) := by rw [hp, Int.natCast_mul]; rfl
  rw [← hp] at hb R
  clear hp
  go_enter Try.func77, Try.ntmps77
  go_wp2
  go_ret
  exact ⟨by rw [R.out]; rfl, rfl⟩

theorem methodNext0 (v : Value) (w : World) : (Go.method 201 80 v "loop.example/opentables/impl.next").run Try.prog w = .ok (75, v) w := by kernel_rfl
theorem methodNext1 (v : Value) (w : World) : (Go.method 201 81 v "loop.example/opentables/impl.next").run Try.prog w = .ok (76, v) w := by kernel_rfl
theorem methodNext2 (v : Value) (w : World) : (Go.method 201 82 v "loop.example/opentables/impl.next").run Try.prog w = .ok (77, v) w := by kernel_rfl

/-- What a block of four cells tells the walk. -/
theorem facts4 {w : World} {b : Nat} {x y z u : Value} {T : TypeId} (h : w.heap[b]? = some (.cells #[x, y, z, u] T (0, 0))) :
    w.cell? ⟨b, 0, none⟩ = some x ∧ w.cell? ⟨b, 1, none⟩ = some y ∧ w.cell? ⟨b, 2, none⟩ = some z ∧ w.cell? ⟨b, 3, none⟩ = some u ∧
    w.frozen? ⟨b, 0, none⟩ = false ∧ w.frozen? ⟨b, 1, none⟩ = false ∧ w.frozen? ⟨b, 2, none⟩ = false ∧ w.frozen? ⟨b, 3, none⟩ = false ∧ b < w.heap.size :=
  ⟨by simp [World.cell?, h], by simp [World.cell?, h], by simp [World.cell?, h], by simp [World.cell?, h], by simp [World.frozen?, h], by simp [World.frozen?, h], by simp [World.frozen?, h], by simp [World.frozen?, h], (Array.getElem?_eq_some_iff.1 h).1⟩

end Go.Proofs.Ytddomanabcmnpaa

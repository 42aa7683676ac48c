/-
  CountSlots, of the program and of the model.
-/
import Derived.Test.YthjnhjpfhhnnlaaAway
namespace Go.Proofs.Ythjnhjpfhhnnlaa
open Go.RowKit

theorem ret_three {a b c a' b' c' : Int} (h1 : a = a') (h2 : b = b') (h3 : c = c') : Ending.returned (.tuple #[.int .i64 a, .int .i64 b, .int .i64 c]) = .returned (.tuple #[.int .i64 a', .int .i64 b', .int .i64 c']) := by rw [h1, h2, h3]
theorem count_no {T : Tab} (h : validB T = false) : -1 = countK T ∧ -1 = countT T ∧ -1 = countF T := by simp [countK, countT, countF, h]
theorem count_yes {T : Tab} (h : validB T = true) : (cnt keyP T.zs T.zs.length : Int) = countK T ∧ (cnt tombP T.zs T.zs.length : Int) = countT T ∧ (cnt freeP T.zs T.zs.length : Int) = countF T := by simp [countK, countT, countF, h]

/-- The three counts behind k rounds. -/
def Counted (zs : List Int) (k : Nat) (a b c : Int) : Prop := a = cnt keyP zs k ∧ b = cnt tombP zs k ∧ c = cnt freeP zs k
theorem Counted.zero (zs : List Int) : Counted zs 0 0 0 0 := by simp [Counted, cnt_zero]
theorem Counted.free {zs : List Int} {k : Nat} {a b c x : Int} (h : Counted zs k a b c) (hk : k < zs.length) (hx : nth zs k = x) (e : (x == -1) = true) : Counted zs (k + 1) a b (c + 1) := by
  obtain ⟨h1, h2, h3⟩ := h
  have e' : x = -1 := by simpa using e
  simp [Counted, cnt_succ hk hx, h1, h2, h3, keyP, tombP, freeP, e']
theorem Counted.tomb {zs : List Int} {k : Nat} {a b c x : Int} (h : Counted zs k a b c) (hk : k < zs.length) (hx : nth zs k = x) (e : (x == -2) = true) : Counted zs (k + 1) a (b + 1) c := by
  obtain ⟨h1, h2, h3⟩ := h
  have e' : x = -2 := by simpa using e
  simp [Counted, cnt_succ hk hx, h1, h2, h3, keyP, tombP, freeP, e']
theorem Counted.key {zs : List Int} {k : Nat} {a b c x : Int} (h : Counted zs k a b c) (hk : k < zs.length) (hx : nth zs k = x) (e : (x == -1) = false) (e2 : (x == -2) = false) : Counted zs (k + 1) (a + 1) b c := by
  obtain ⟨h1, h2, h3⟩ := h
  simp [Counted, cnt_succ hk hx, h1, h2, h3, keyP, tombP, freeP, e, e2]
theorem Counted.bounds {zs : List Int} {k : Nat} {a b c : Int} (h : Counted zs k a b c) : (0 ≤ a ∧ a ≤ zs.length) ∧ (0 ≤ b ∧ b ≤ zs.length) ∧ (0 ≤ c ∧ c ≤ zs.length) := by
  obtain ⟨rfl, rfl, rfl⟩ := h
  have h1 := cnt_le keyP zs k
  have h2 := cnt_le tombP zs k
  have h3 := cnt_le freeP zs k
  omega

end Go.Proofs.Ythjnhjpfhhnnlaa

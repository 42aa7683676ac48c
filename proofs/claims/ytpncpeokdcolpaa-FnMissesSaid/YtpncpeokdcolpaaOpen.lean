/-
  The reader of drawn bytes: l14Open.
-/
import Derived.Test.YtpncpeokdcolpaaDraw4
namespace Go.Proofs.Ytpncpeokdcolpaa
open Go.RowKit

theorem NumsAt.take {k : IntKind} {w : World} {a : Option Addr} {zs : List Int} (h : NumsAt k w a zs) (n : Nat) : NumsAt k w a (zs.take n) := fun h0 => by
  simp only [List.length_take] at h0
  obtain ⟨b, o, e, hc⟩ := h (by omega)
  refine ⟨b, o, e, fun j hj => ?_⟩
  simp only [List.length_take] at hj
  rw [hc j (by omega), List.getElem?_take_of_lt (by omega)]

set_option maxHeartbeats 2000000 in
theorem l14Open_any {w0 w : World} {l : List It} (S : St w0 w l) (a : Option Addr) (c : Nat) (code : List Int) (h : NumsAt .u8 w a code) (hb : 0 < code.length → ∀ q, a = some q → q.block < w.heap.size) (hc : code.length ≤ c) (hc2 : c ≤ 9223372036854775807) (hy : ∀ i, 0 ≤ nth code i ∧ nth code i ≤ 255) :
    Calls Try.prog 48 #[.slice a code.length c] w fun e w' => ∃ r, e = .returned (.pointer (some ⟨r, 0, none⟩)) ∧ w.heap.size ≤ r ∧ CodeOk (code.take 2000) ∧
      St w0 w' (rd r a c (code.take 2000) 0 :: It.bytes w.heap.size a (code.take 2000) :: l) := by
  have ok : CodeOk (code.take 2000) := ⟨by simp; omega, fun i => by
    unfold nth
    by_cases hi : i < 2000
    · have := hy i
      unfold nth at this
      rw [List.getElem?_take_of_lt hi]
      exact this
    · simp [List.getElem?_take, hi]⟩
  have S1 := S.add (It.bytes w.heap.size a (code.take 2000)) (Nat.le_refl _) ⟨h.take 2000, fun h0 => hb (by simp at h0; omega)⟩
  have S2 := S1.alloc #[.slice a (code.take 2000).length c, .int .i64 0] 88
  go_enter Try.func48, Try.ntmps48
  by_cases hl : 2000 < code.length
  · have el : (code.take 2000).length = 2000 := by simp; omega
    rw [el] at S2
    have t0 : decide (2000 < (code.length : Int)) = true := decide_eq_true (by omega)
    have t1 : decide (2000 < code.length) = true := decide_eq_true (by omega)
    go_wp2
    go_ret
    exact ⟨_, rfl, Nat.le_refl _, ok, by unfold rd; rw [el]; exact S2⟩
  · have el : (code.take 2000).length = code.length := by simp; omega
    rw [el] at S2
    have t0 : decide (2000 < (code.length : Int)) = false := decide_eq_false (by omega)
    have t1 : decide (2000 < code.length) = false := decide_eq_false (by omega)
    go_wp2
    go_ret
    exact ⟨_, rfl, Nat.le_refl _, ok, by unfold rd; rw [el]; exact S2⟩

end Go.Proofs.Ytpncpeokdcolpaa

/-
  math/bits.TrailingZeros16, where its table is laid.
-/
import Derived.WalkKit
import Derived.IntWalk
import Derived.Test.YtipabndhknhkeaaGreatDoorBase
import Derived.Test.YtipabndhknhkeaaGreatDoorMath
namespace Go.Proofs.YtipabndhknhkeaaGreatDoor
open Go.RowKit

/-- The table of the library. -/
def deB : List Int := [0, 1, 28, 2, 29, 14, 24, 3, 30, 22, 20, 15, 25, 17, 4, 8, 31, 27, 13, 23, 21, 19, 16, 7, 26, 12, 18, 6, 11, 5, 10, 9]
def DeB (w : World) : Prop := 0 < w.heap.size ∧ ∀ i, i < 32 → w.cell? ⟨0, i, none⟩ = some (.int .u8 (nth deB i))
theorem DeB.below {w W : World} {n : Nat} (h : DeB w) (hb : Below n w W) (hn : 0 < n) : DeB W :=
  ⟨Nat.lt_of_lt_of_le h.1 hb.size, fun i hi => (World.cell?_of_block (a := ⟨0, i, none⟩) (hb.block 0 hn)).trans (h.2 i hi)⟩

theorem deB_at : ∀ k : Nat, k < 16 → (2 ^ k * 125613361 % 4294967296) / 134217728 < 32 ∧ nth deB ((2 ^ k * 125613361 % 4294967296) / 134217728) = (k : Int) := by decide

theorem neg16 {m : Nat} (h0 : 0 < m) (hm : m < 65536) : IntKind.u16.wrap (-(m : Int)) = ((65536 - m : Nat) : Int) := by
  rw [IntKind.wrap_u16]; omega
theorem low16 {m k q : Nat} (hL : LowBit m k q) (hm : m < 65536) : bits BinOp.and IntKind.u16 (m : Int) (IntKind.u16.wrap (-(m : Int))) = ((2 ^ k : Nat) : Int) := by
  have h0 : 0 < m := by have e := hL.eq; have := Nat.two_pow_pos k; omega
  rw [neg16 h0 hm, u16_and_nat m (65536 - m) hm (by omega), hL.neg hm]

set_option maxHeartbeats 1000000 in
theorem tz_any (m k q : Nat) (hm : m < 65536) (hL : LowBit m k q) (w : World) (hD : DeB w) :
    Calls Tryz.prog 93 #[.int .u16 m] w fun e w' => e = .returned (.int .i64 k) ∧ w = w' := by
  have hk := hL.lt hm
  obtain ⟨h1, h2⟩ := deB_at k hk
  have hc := hD.2 _ h1
  rw [h2] at hc
  have hne : ((m : Int) == 0) = false := by
    have e := hL.eq
    have := Nat.two_pow_pos k
    simp; omega
  have eA := low16 hL hm
  have hp := pow16 hk
  obtain ⟨x, hx⟩ : ∃ x, bits BinOp.and IntKind.u16 (m : Int) (IntKind.u16.wrap (-(m : Int))) = x := ⟨_, rfl⟩
  rw [hx] at eA
  have e1 : x % 4294967296 * 125613361 % 4294967296 / 134217728 = ((2 ^ k * 125613361 % 4294967296 / 134217728 : Nat) : Int) := by rw [eA]; generalize 2 ^ k = p at hp; omega
  have e2 : (x % 4294967296 * 125613361 % 4294967296 / 134217728).toNat = 2 ^ k * 125613361 % 4294967296 / 134217728 := by rw [e1]; exact Int.toNat_natCast _
  rw [← e2] at hc
  have b1 : (0 : Int) ≤ x % 4294967296 * 125613361 % 4294967296 / 134217728 := by omega
  have b2 : x % 4294967296 * 125613361 % 4294967296 / 134217728 < 32 := by omega
  rw [← hx] at hc b1 b2
  clear e1 e2 eA hx h1 h2 hp
  go_enter Tryz.func93, Tryz.ntmps93
  go_wp2
  go_ret
  exact ⟨rfl, rfl⟩

end Go.Proofs.YtipabndhknhkeaaGreatDoor

/-
  The reader of drawn bytes: pick, num.
-/
import Derived.Test.YtdoodkdlfkekmaaDoorBase
import Derived.Test.YtdoodkdlfkekmaaDoorLow
import Derived.Laws.BitsAllLaws
import Derived.IntWalk
namespace Go.Proofs.YtdoodkdlfkekmaaDoor
open Go.RowKit

theorem xor_i64 (a b : Int) (h1 : 0 ≤ a) (h2 : a < 4611686018427387904) (h3 : 0 ≤ b) (h4 : b < 4611686018427387904) : 0 ≤ bits .xor .i64 a b ∧ bits .xor .i64 a b < 4611686018427387904 := by
  obtain ⟨A, rfl⟩ := Int.eq_ofNat_of_zero_le h1
  obtain ⟨B, rfl⟩ := Int.eq_ofNat_of_zero_le h3
  have hx : A ^^^ B < 2 ^ 62 := Nat.xor_lt_two_pow (by omega) (by omega)
  have e : ∀ N : Nat, N < 4611686018427387904 → (BitVec.ofInt 64 (N : Int)).toNat = N := by
    intro N hN
    rw [BitVec.toNat_ofInt]
    omega
  have : bits .xor .i64 (A : Int) (B : Int) = ((A ^^^ B : Nat) : Int) := by
    show IntKind.i64.wrap ((BitVec.ofInt 64 (A : Int) ^^^ BitVec.ofInt 64 (B : Int)).toNat : Int) = _
    rw [BitVec.toNat_xor, e A (by omega), e B (by omega), IntKind.wrap_i64]
    omega
  rw [this]
  omega

theorem mix_bounds (A D : Int) (h1 : 0 ≤ A) (h2 : A ≤ 1000000000) (h3 : 0 ≤ D) (h4 : D ≤ 1000000) : 0 ≤ wrap64 (A + wrap64 (wrap64 D * 53)) ∧ wrap64 (A + wrap64 (wrap64 D * 53)) ≤ 2000000000 := by
  rw [IntWalk.wrap64_in D (by omega), IntWalk.wrap64_in (D * 53) (by omega), IntWalk.wrap64_in _ (by omega)]
  omega

/-- Bytes that are read. -/
structure CodeOk (code : List Int) : Prop where
  len : code.length ≤ 2000
  byte : ∀ i, 0 ≤ nth code i ∧ nth code i ≤ 255

/-- Two cells of a block. -/
theorem facts2 {w : World} {b : Nat} {x y : Value} {T : TypeId} (h : w.heap[b]? = some (.cells #[x, y] T (0, 0))) :
    w.cell? ⟨b, 0, none⟩ = some x ∧ w.cell? ⟨b, 1, none⟩ = some y ∧ w.frozen? ⟨b, 0, none⟩ = false ∧ w.frozen? ⟨b, 1, none⟩ = false ∧ b < w.heap.size :=
  ⟨by simp [World.cell?, h], by simp [World.cell?, h], by simp [World.frozen?, h], by simp [World.frozen?, h], (Array.getElem?_eq_some_iff.1 h).1⟩

theorem NumsAt.at {k : IntKind} {w : World} {a : Option Addr} {zs : List Int} (h : NumsAt k w a zs) {i : Nat} (hi : i < zs.length) :
    ∃ b o x, a = some ⟨b, o, none⟩ ∧ w.cell? ⟨b, o + i, none⟩ = some (.int k x) ∧ Hid (nth zs i = x) :=
  let ⟨b, o, e, hc⟩ := h (by omega)
  ⟨b, o, _, e, hc i hi, rfl⟩

theorem setCell_two {w : World} {b : Nat} {x y : Value} {t : TypeId} (h : w.heap[b]? = some (.cells #[x, y] t (0, 0))) (v : Value) : (w.setCell ⟨b, 1, none⟩ v).heap[b]? = some (.cells #[x, v] t (0, 0)) := by
  simp [World.setCell, Array.getElem?_modify, h]

/-- Bytes that are read, in blocks below hi. -/
def It.bytes (hi : Nat) (a : Option Addr) (zs : List Int) : It where
  lo := 0
  hi := hi
  P := fun w => NumsAt .u8 w a zs ∧ (0 < zs.length → ∀ p, a = some p → p.block < hi)
  loc := fun w w' _ _ h hp => by
    refine ⟨fun h0 => ?_, hp.2⟩
    obtain ⟨b, off, rfl, hc⟩ := hp.1 h0
    have hb2 := hp.2 h0 _ rfl
    exact ⟨b, off, rfl, fun j hj => (World.cell?_of_block (w := w) (a := ⟨b, off + j, none⟩) (h b (Nat.zero_le _) hb2)).trans (hc j hj)⟩

end Go.Proofs.YtdoodkdlfkekmaaDoor

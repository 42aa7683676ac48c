/-
  Bytes that came in are opened.
-/
import Derived.Test.YtpncpeokdcolpaaOpen
namespace Go.Proofs.Ytpncpeokdcolpaa
open Go.RowKit

/-- Bytes that came in, as lists. -/
structure Came (c : Nat) (code : List Int) : Prop where
  cap : code.length ≤ c
  cap2 : c ≤ 9223372036854775807
  byte : ∀ i, 0 ≤ nth code i ∧ nth code i ≤ 255

theorem Came.open {w0 w : World} {l : List It} {a : Option Addr} {c bh : Nat} {code : List Int} (S : St w0 w (It.bytes bh a code :: l)) (h : Came c code) :
    Calls Try.prog 48 #[.slice a code.length c] w fun e w' => ∃ r, e = .returned (.pointer (some ⟨r, 0, none⟩)) ∧ w.heap.size ≤ r ∧ CodeOk (code.take 2000) ∧
      Far (rd r a c (code.take 2000) 0) (It.bytes w.heap.size a (code.take 2000) :: l) ∧
      St w0 w' (rd r a c (code.take 2000) 0 :: It.bytes w.heap.size a (code.take 2000) :: l) := by
  have hN := (S.get 0 rfl : (It.bytes bh a code).P w)
  have hz : bh ≤ w.heap.size := (S.all _ (List.mem_cons_self ..)).1
  have hb : 0 < code.length → ∀ q, a = some q → q.block < w.heap.size := fun h0 q e => Nat.lt_of_lt_of_le (hN.2 h0 q e) hz
  have Sl : St w0 w l := S.turn fun i hi => List.mem_cons_of_mem _ hi
  refine (l14Open_any Sl a c code hN.1 hb h.cap h.cap2 h.byte).mono ?_
  rintro e w' ⟨r, rfl, hr, ok, S1⟩
  have S0 := Sl.add (It.bytes w.heap.size a (code.take 2000)) (Nat.le_refl _) ⟨hN.1.take 2000, fun h0 => hb (by simp at h0; omega)⟩
  exact ⟨r, rfl, hr, ok, Far.older S0 (fun _ hj => hj) hr, S1⟩

end Go.Proofs.Ytpncpeokdcolpaa

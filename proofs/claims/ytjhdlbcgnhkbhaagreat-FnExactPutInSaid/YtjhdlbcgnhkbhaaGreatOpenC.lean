/-
  Bytes that came in are opened.
-/
import Derived.Test.YtjhdlbcgnhkbhaaGreatOpen
namespace Go.Proofs.YtjhdlbcgnhkbhaaGreat
open Go.RowKit

/-- Bytes that came in, as lists. -/
structure Came (c : Nat) (code : List Int) : Prop where
  cap : code.length ≤ c
  cap2 : c ≤ 9223372036854775807
  byte : ∀ i, 0 ≤ nth code i ∧ nth code i ≤ 255

end Go.Proofs.YtjhdlbcgnhkbhaaGreat

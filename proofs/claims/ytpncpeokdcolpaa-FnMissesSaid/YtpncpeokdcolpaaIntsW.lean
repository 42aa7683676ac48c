/-
  What the exact laws of functions that answer lists of integers share.
-/
import Derived.Test.YtpncpeokdcolpaaLawValid
import Derived.Test.YtpncpeokdcolpaaKeys
namespace Go.Proofs.Ytpncpeokdcolpaa
open Go.RowKit

theorem keysOf_len (T : Tab) : (keysOf T).length ≤ 1000 := by
  unfold keysOf
  split
  · have := sortTo_len T.zs 100
    unfold sortU
    omega
  · simp

/-- The same list twice. -/
theorem eqIntS_same (xs : List Int) (a1 a2 : Option Addr) (c1 c2 : Nat) (w : World) (hx : xs.length ≤ 1073741824) (h1 : IntsAt w a1 xs) (h2 : IntsAt w a2 xs) :
    Calls Try.prog 36 #[.slice a1 xs.length c1, .slice a2 xs.length c2] w fun e w' => e = .returned (.bool true) ∧ Below w.heap.size w w' := by
  refine (eqIntS_any a1 a2 c1 c2 xs xs w (by omega) (by omega) h1 h2).mono ?_
  rintro e w' ⟨rfl, n, rfl⟩
  exact ⟨by simp, below_drewN (Below.refl _ _) _⟩

end Go.Proofs.Ytpncpeokdcolpaa

/-
  The slots that are visited for a key: l2Way of the model.
-/
import Derived.Test.YtojmjhojgfopaaaDoorMath
import Derived.Test.YtojmjhojgfopaaaDoorSort
import Derived.Test.YtojmjhojgfopaaaDoorDraw3
import Derived.Test.YtojmjhojgfopaaaDoorHome
namespace Go.Proofs.YtojmjhojgfopaaaDoor
open Go.RowKit

/-- One step of a way as the program counts it. -/
theorem step_cast (T : Tab) (h j : Nat) : ((h : Int) + (j : Int)) % (T.zs.length : Int) = (stepS T h j : Int) := by
  simp [stepS]

theorem stop_step {p : Nat → Bool} {k : Nat} (h : ∀ j, j < k → p j = false) (hk : p k = false) : ∀ j, j < k + 1 → p j = false := by
  intro j hj
  rcases Nat.lt_succ_iff_lt_or_eq.1 hj with h1 | rfl
  · exact h j h1
  · exact hk

theorem ownsRow_pos' {w : World} {base : Nat} {e : TypeId} {size : Nat} {v : Value} {n : Nat} {xs : List Value} (h : w.ownsRow base e size v n xs) (h0 : 0 < n) : ∃ g cap, v = .slice (some ⟨g, 0, none⟩) n cap := by
  rcases h.2 with ⟨_, h1⟩ | ⟨g, cap, cur, rfl, _⟩
  · omega
  · exact ⟨g, cap, rfl⟩

end Go.Proofs.YtojmjhojgfopaaaDoor

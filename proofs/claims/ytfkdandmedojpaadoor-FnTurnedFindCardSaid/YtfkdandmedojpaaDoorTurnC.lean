/-
  Contracts of the program at a turned table.
-/
import Derived.Test.YtfkdandmedojpaaDoorRowBox
import Derived.Test.YtfkdandmedojpaaDoorHome
import Derived.Test.YtfkdandmedojpaaDoorAway
import Derived.Test.YtfkdandmedojpaaDoorSix
namespace Go.Proofs.YtfkdandmedojpaaDoor
open Go.RowKit

theorem AwayOf_turn (T : Tab) (a : Option Addr) (c : Nat) (slot : Int) (w : World) (hn : T.zs.length ≤ 100) (h : IntsAt w a (turnL T.zs)) :
    Calls Tryd.prog 12 #[.agg #[.int .i64 T.t, .int .i64 (T.p + 1), .slice a T.zs.length c], .int .i64 slot] w fun e w' => e = .returned (.int .i64 (awayOf (turn T) slot)) ∧ Below w.heap.size w w' := by
  have h1 := AwayOf_any (turn T) a c slot w (by rw [turn_len]; omega) h
  unfold tabV at h1
  rw [turn_len] at h1
  exact h1
theorem HomeOf_turn (T : Tab) (a : Option Addr) (c : Nat) (key : Int) (w : World) (hn : T.zs.length ≤ 100) (h : IntsAt w a (turnL T.zs)) :
    Calls Tryd.prog 11 #[.agg #[.int .i64 T.t, .int .i64 (T.p + 1), .slice a T.zs.length c], .int .i64 key] w fun e w' => e = .returned (.int .i64 (homeOf (turn T) key)) ∧ Below w.heap.size w w' := by
  have h1 := HomeOf_any (turn T) a c key w (by rw [turn_len]; omega) h
  unfold tabV at h1
  rw [turn_len] at h1
  exact h1
theorem TableValid_turn (T : Tab) (a : Option Addr) (c : Nat) (w : World) (hn : T.zs.length ≤ 100) (h : IntsAt w a (turnL T.zs)) :
    Calls Tryd.prog 18 #[.agg #[.int .i64 T.t, .int .i64 (T.p + 1), .slice a T.zs.length c]] w fun e w' => e = .returned (.bool (validB (turn T))) ∧ Below w.heap.size w w' := by
  have h1 := TableValid_any (turn T) a c w (by rw [turn_len]; omega) h
  unfold tabV at h1
  rw [turn_len] at h1
  exact h1

end Go.Proofs.YtfkdandmedojpaaDoor

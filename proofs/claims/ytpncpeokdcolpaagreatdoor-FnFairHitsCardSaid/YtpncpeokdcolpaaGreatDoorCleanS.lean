/-
  CleanTable of the model.
-/
import Derived.Test.YtpncpeokdcolpaaGreatDoorNew
import Derived.Test.YtpncpeokdcolpaaGreatDoorDrawn
import Derived.Test.YtpncpeokdcolpaaGreatDoorFinds2All
import Derived.Test.YtpncpeokdcolpaaGreatDoorMath
namespace Go.Proofs.YtpncpeokdcolpaaGreatDoor
open Go.RowKit

theorem cleanRes_no {T : Tab} {w w' : World} (h : soundB T = false) (hb : Below w.heap.size w w') : TabRes (cleanT T) (soundB T) w (.returned (.tuple #[tbl 0 0 none 0 0, .bool false])) w' := by
  rw [h, cleanT_no h]
  exact ⟨none, 0, rfl, OwnInts.nil _ _, hb⟩
theorem cleanRes_yes {T : Tab} {w w' : World} {a : Option Addr} {c : Nat} (hs : soundB T = true) (ho : OwnInts w' w.heap.size a (putsT T (keysLL T.zs)).zs) (hb : Below w.heap.size w w') :
    TabRes (cleanT T) true w (.returned (.tuple #[tbl T.t T.p a T.zs.length c, .bool true])) w' := by
  have CI := clean_to (sound_all.1 hs).1 T.zs.length (Nat.le_refl _)
  rw [List.take_length] at CI
  rw [cleanT_yes hs]
  refine ⟨_, c, ?_, ho, hb⟩
  rw [CI.t, CI.p, CI.len]

end Go.Proofs.YtpncpeokdcolpaaGreatDoor

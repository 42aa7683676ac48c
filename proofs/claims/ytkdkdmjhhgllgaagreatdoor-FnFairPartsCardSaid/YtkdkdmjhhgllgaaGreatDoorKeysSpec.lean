/-
  KeysIn of the model.
-/
import Derived.Test.YtkdkdmjhhgllgaaGreatDoorKeys
namespace Go.Proofs.YtkdkdmjhhgllgaaGreatDoor
open Go.RowKit
end Go.Proofs.YtkdkdmjhhgllgaaGreatDoor

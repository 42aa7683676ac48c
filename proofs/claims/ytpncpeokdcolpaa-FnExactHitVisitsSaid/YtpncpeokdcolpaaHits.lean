/-
  What is visited to find all keys, of the program and of the model.
-/
import Derived.Test.YtpncpeokdcolpaaHitI
import Derived.Test.YtpncpeokdcolpaaHitS
namespace Go.Proofs.Ytpncpeokdcolpaa

end Go.Proofs.Ytpncpeokdcolpaa

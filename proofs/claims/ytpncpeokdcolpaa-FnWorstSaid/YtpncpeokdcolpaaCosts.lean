/-
  What is visited in vain, of the program and of the model.
-/
import Derived.Test.YtpncpeokdcolpaaCostV
import Derived.Test.YtpncpeokdcolpaaCostS
namespace Go.Proofs.Ytpncpeokdcolpaa

end Go.Proofs.Ytpncpeokdcolpaa

/-
  MissAt, of the program and of the model.
-/
import Derived.Test.YtpncpeokdcolpaaDoorCostA
import Derived.Test.YtpncpeokdcolpaaDoorCostS
namespace Go.Proofs.YtpncpeokdcolpaaDoor

end Go.Proofs.YtpncpeokdcolpaaDoor

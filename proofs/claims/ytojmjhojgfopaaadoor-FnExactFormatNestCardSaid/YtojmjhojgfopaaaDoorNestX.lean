/-
  A nest as an argument of a law.
-/
import Derived.Test.YtojmjhojgfopaaaDoorNest
import Derived.Test.YtojmjhojgfopaaaDoorFrame
namespace Go.Proofs.YtojmjhojgfopaaaDoor
open Go.RowKit

structure NstIn (w : World) (N : Nst) (a : Option Addr) : Prop where
  at_ : IntsAt w a N.zs
  len : N.zs.length ≤ 9223372036854775807

end Go.Proofs.YtojmjhojgfopaaaDoor

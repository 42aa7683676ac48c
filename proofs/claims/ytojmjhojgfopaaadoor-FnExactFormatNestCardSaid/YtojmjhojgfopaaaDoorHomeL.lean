/-
  l1Home of the model.
-/
import Derived.Test.YtojmjhojgfopaaaDoorBase
namespace Go.Proofs.YtojmjhojgfopaaaDoor
open Go.RowKit

set_option maxHeartbeats 400000 in
theorem l1Home_any (T : Tab) (a : Option Addr) (c : Nat) (key : Int) (w : World) (hv : validB T = true) (h0 : 0 ≤ key) (h1 : key ≤ 99) :
    Calls Tryd.prog 23 #[tabV T a c, .int .i64 key] w fun e w' => e = .returned (.int .i64 (homeI T key)) ∧ Below w.heap.size w w' := by
  obtain ⟨⟨l1, l2⟩, ⟨t1, t2⟩, ⟨p1, p2⟩, _⟩ := valid_facts hv
  have m := mul_bounds t1 t2 (k := key) (by omega) h1
  have m0 := mul_nonneg' t1 h0
  have ln : ((T.zs.length : Int) == 0) = false := beq_eq_false_iff_ne.2 (by omega)
  go_enter Tryd.func23, Tryd.ntmps23
  go_wp2
  go_ret
  exact ⟨rfl, (Below.refl _ _).alloc (Nat.le_refl _) _⟩

end Go.Proofs.YtojmjhojgfopaaaDoor

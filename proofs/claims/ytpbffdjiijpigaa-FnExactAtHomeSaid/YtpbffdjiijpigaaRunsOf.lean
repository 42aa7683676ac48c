/-
  RunsOf of the model.
-/
import Derived.Test.YtpbffdjiijpigaaRuns
namespace Go.Proofs.Ytpbffdjiijpigaa
open Go.RowKit

/-- RunsOf of the document. -/
def runsOf (T : Tab) : List (Nat × Nat) := if validB T then runsL T else []

theorem ownsRow_base {w : World} {base base' : Nat} {e : TypeId} {size : Nat} {v : Value} {n : Nat} {xs : List Value} (h : w.ownsRow base e size v n xs) (hb : base' ≤ base) : w.ownsRow base' e size v n xs := by
  refine ⟨h.1, ?_⟩
  rcases h.2 with h2 | ⟨g, cap, cur, hv, hg, rest⟩
  · exact .inl h2
  · exact .inr ⟨g, cap, cur, hv, Nat.le_trans hb hg, rest⟩

set_option maxHeartbeats 1000000 in
theorem specRunsOf_any (T : Tab) (a : Option Addr) (c : Nat) (w : World) (hx : T.zs.length ≤ 9223372036854775807) (h1 : IntsAt w a T.zs) :
    Calls Try.prog 11 #[tabV T a c] w fun e w' => ∃ (a' : Option Addr) (c' : Nat), e = .returned (.tuple #[.slice a' (runsOf T).length c', .bool (validB T)]) ∧ w'.ownsRow w.heap.size 37 2 (.slice a' (runsOf T).length c') (runsOf T).length (cellsR (runsOf T)) ∧ Below w.heap.size w w' := by
  have S0 := ((St.start w).read h1).alloc #[.int .i64 T.t, .int .i64 T.p, .slice a T.zs.length c] 29
  cases hv : validB T
  · have R : Hid (runsOf T = []) := Lib.hid (by simp [runsOf, hv])
    go_enter Try.func11, Try.ntmps11
    go_wp2_with fail
    refine (specTableValid_any T a c _ hx (by exact S0.reads 1 rfl)).mono ?_
    rw [hv]
    rintro e w1 ⟨rfl, hb⟩
    have S1 := S0.below hb
    have z1 := S1.size
    have R1 : Hid ((w1.alloc (.cells #[] 37)).ownsRow w.heap.size 37 2 (.slice (some ⟨w1.heap.size, 0, none⟩) 0 0) 0 []) := Lib.hid (World.ownsRow_made (w := w1) (base := w.heap.size) (e := 37) (size := 2) #[] 0 z1 (by unfold maxLen; omega) rfl)
    go_wp2
    go_ret2
    exact ⟨_, 0, by rw [R.out]; rfl, by rw [R.out]; exact R1.out, S1.old.alloc z1 _⟩
  · have HR : Hid (runsOf T = runsL T) := Lib.hid (by simp [runsOf, hv])
    go_enter Try.func11, Try.ntmps11
    go_wp2_with fail
    refine (specTableValid_any T a c _ hx (by exact S0.reads 1 rfl)).mono ?_
    rw [hv]
    rintro e w1 ⟨rfl, hb⟩
    have S1 := S0.below hb
    have z1 := S1.size
    clear S0 hb
    obtain ⟨x0, x1, x2, x3, x4, x5, xz⟩ := facts3 (S1.cells 0 rfl)
    go_wp2_with fail
    refine (l2Runs_any T a c _ hv (by exact S1.reads 1 rfl)).mono ?_
    rintro e w2 ⟨a2, c2, rfl, ho, hb⟩
    have S2 := S1.below hb
    have HO := Lib.hid (ownsRow_base ho (base' := w.heap.size) (by omega))
    clear ho
    go_wp2
    go_ret2
    exact ⟨a2, c2, by rw [HR.out]; rfl, by rw [HR.out]; exact HO.out, S2.old⟩

end Go.Proofs.Ytpbffdjiijpigaa

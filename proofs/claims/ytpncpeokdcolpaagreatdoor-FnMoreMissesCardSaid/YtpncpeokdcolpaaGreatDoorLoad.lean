/-
  LoadOf: the program's and the model's.
-/
import Derived.Test.YtpncpeokdcolpaaGreatDoorCount
import Derived.Test.YtpncpeokdcolpaaGreatDoorMath
namespace Go.Proofs.YtpncpeokdcolpaaGreatDoor
open Go.RowKit

theorem load_no {T : Tab} (h : validB T = false) : loadOf T = -1 := by simp [loadOf, h]
/-- The arithmetic of a load. -/
theorem load_walk {T : Tab} (h : validB T = true) : ∃ a b : Nat, countK T = a ∧ countT T = b ∧ a + b ≤ T.zs.length ∧ 1 ≤ T.zs.length ∧ T.zs.length ≤ 16 ∧ loadOf T = (100 * ((a : Int) + b)).tdiv T.zs.length := by
  obtain ⟨⟨l1, l2⟩, _⟩ := valid_facts h
  have h3 := cnt_all T.zs
  refine ⟨cnt keyP T.zs T.zs.length, cnt tombP T.zs T.zs.length, by simp [countK, h], by simp [countT, h], by omega, l1, l2, ?_⟩
  rw [Int.tdiv_eq_ediv_of_nonneg (by omega)]
  simp [loadOf, h, countK, countT]

set_option maxHeartbeats 2000000 in
theorem LoadOf_any (T : Tab) (a : Option Addr) (c : Nat) (w : World) (hx : T.zs.length ≤ 9223372036854775807) (h1 : IntsAt w a T.zs) :
    Calls Tryz.prog 26 #[tabV T a c] w fun e w' => e = .returned (.int .i64 (loadOf T)) ∧ Below w.heap.size w w' := by
  have S0 := ((St.start w).read h1).alloc #[.int .i64 T.t, .int .i64 T.p, .slice a T.zs.length c] 27
  cases hv : validB T
  · have E : Hid (loadOf T = -1) := Lib.hid (load_no hv)
    go_enter Tryz.func26, Tryz.ntmps26
    go_wp2_with fail
    refine (TableValid_any T a c _ hx (by exact S0.reads 1 rfl)).mono ?_
    rw [hv]
    rintro e w1 ⟨rfl, hb⟩
    have S1 := S0.below hb
    go_wp2
    go_ret
    exact ⟨by rw [E.out]; rfl, S1.old⟩
  · obtain ⟨p, q, e1, e2, hpq, n1, n2, e3⟩ := load_walk hv
    have E := Lib.hid e3
    clear e3
    have w1' : IntKind.i64.wrap ((p : Int) + (q : Int)) = (p : Int) + q := IntWalk.i64_in _ (by omega)
    have w2' : IntKind.i64.wrap (100 * ((p : Int) + (q : Int))) = 100 * ((p : Int) + q) := IntWalk.i64_in _ (by omega)
    have b1 := Int.tdiv_nonneg (a := 100 * ((p : Int) + (q : Int))) (b := (T.zs.length : Int)) (by omega) (by omega)
    have b2 := Int.tdiv_le_self (a := 100 * ((p : Int) + (q : Int))) (T.zs.length : Int) (by omega)
    have w3' : IntKind.i64.wrap ((100 * ((p : Int) + (q : Int))).tdiv (T.zs.length : Int)) = (100 * ((p : Int) + q)).tdiv T.zs.length := IntWalk.i64_in _ (by omega)
    have ln : ((T.zs.length : Int) == 0) = false := beq_eq_false_iff_ne.2 (by omega)
    have ln2 : (T.zs.length == 0) = false := beq_eq_false_iff_ne.2 (by omega)
    have ln3 : ¬ T.zs = [] := by intro e; rw [e] at n1; simp at n1
    go_enter Tryz.func26, Tryz.ntmps26
    go_wp2_with fail
    refine (TableValid_any T a c _ hx (by exact S0.reads 1 rfl)).mono ?_
    rw [hv]
    rintro e w1 ⟨rfl, hb⟩
    have S1 := S0.below hb
    clear S0 hb
    obtain ⟨x0, x1, x2, x3, x4, x5, xz⟩ := facts3 (S1.cells 0 rfl)
    have HC := CountSlots_any T a c w1 hx (by exact S1.reads 1 rfl)
    rw [e1, e2] at HC
    go_wp2_with fail
    refine HC.mono ?_
    rintro e w2 ⟨rfl, hb⟩
    have S2 := S1.below hb
    clear S1 hb x0 x1 x2 x3 x4 x5 xz HC
    obtain ⟨x0, x1, x2, x3, x4, x5, xz⟩ := facts3 (S2.cells 0 rfl)
    go_wp2
    go_ret
    exact ⟨by rw [E.out]; rfl, S2.old⟩

end Go.Proofs.YtpncpeokdcolpaaGreatDoor

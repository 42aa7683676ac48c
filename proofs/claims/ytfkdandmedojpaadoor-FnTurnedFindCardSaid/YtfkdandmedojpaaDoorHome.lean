/-
  Homes: HomeOf, wrap, l1Home.
-/
import Derived.Test.YtfkdandmedojpaaDoorHomeIn
import Derived.Test.YtfkdandmedojpaaDoorSmallK
namespace Go.Proofs.YtfkdandmedojpaaDoor
open Go.RowKit

set_option maxHeartbeats 400000 in
theorem l1Home_any (T : Tab) (a : Option Addr) (c : Nat) (key : Int) (w : World) (hv : validB T = true) (h0 : 0 ≤ key) (h1 : key ≤ 99) :
    Calls Tryd.prog 50 #[tabV T a c, .int .i64 key] w fun e w' => e = .returned (.int .i64 (homeI T key)) ∧ Below w.heap.size w w' := by
  obtain ⟨⟨l1, l2⟩, ⟨t1, t2⟩, ⟨p1, p2⟩, _⟩ := valid_facts hv
  have m := mul_bounds t1 t2 (k := key) (by omega) h1
  have m0 := mul_nonneg' t1 h0
  have ln : ((T.zs.length : Int) == 0) = false := beq_eq_false_iff_ne.2 (by omega)
  go_enter Tryd.func50, Tryd.ntmps50
  go_wp2
  go_ret
  exact ⟨rfl, (Below.refl _ _).alloc (Nat.le_refl _) _⟩

set_option maxHeartbeats 400000 in
theorem wrap_any (a : Option Addr) (n c : Nat) (x : Int) (w : World) (h1 : 1 ≤ n) (h2 : n ≤ 16) (h3 : -1000000 ≤ x) (h4 : x ≤ 1000000) :
    Calls Tryd.prog 34 #[.slice a n c, .int .i64 x] w fun e w' => e = .returned (.int .i64 (x % n)) ∧ w = w' := by
  have ln : ((n : Int) == 0) = false := by simp; omega
  obtain ⟨b1, b2⟩ := tmod_bounds x (n := n) (by omega)
  go_enter Tryd.func34, Tryd.ntmps34
  go_wp2
  go_ret
  exact ⟨ret_int (by rw [wrap_mod]), rfl⟩

set_option maxHeartbeats 400000 in
theorem HomeOf_any (T : Tab) (a : Option Addr) (c : Nat) (key : Int) (w : World) (hx : T.zs.length ≤ 9223372036854775807) (h1 : IntsAt w a T.zs) :
    Calls Tryd.prog 11 #[tabV T a c, .int .i64 key] w fun e w' => e = .returned (.int .i64 (homeOf T key)) ∧ Below w.heap.size w w' := by
  have S0 := ((St.start w).read h1).alloc #[.int .i64 T.t, .int .i64 T.p, .slice a T.zs.length c] 25
  cases hv : validB T
  · go_enter Tryd.func11, Tryd.ntmps11
    go_wp2_with fail
    refine (TableValid_any T a c _ hx (by exact S0.reads 1 rfl)).mono ?_
    rw [hv]
    rintro e w1 ⟨rfl, hb⟩
    have S1 := S0.below hb
    go_wp2
    go_ret
    exact ⟨ret_int (homeOf_no (.inl hv)), S1.old⟩
  · cases hk : inB key 0 99
    · go_enter Tryd.func11, Tryd.ntmps11
      go_wp2_with fail
      refine (TableValid_any T a c _ hx (by exact S0.reads 1 rfl)).mono ?_
      rw [hv]
      rintro e w1 ⟨rfl, hb⟩
      have S1 := S0.below hb
      go_wp2_with (go_at_call 29; refine (isKey_any _ _).mono ?_; rintro e w' ⟨rfl, rfl⟩)
      go_ret
      exact ⟨ret_int (homeOf_no (.inr hk)), S1.old⟩
    · obtain ⟨k0, k1⟩ := inB_iff.1 hk
      go_enter Tryd.func11, Tryd.ntmps11
      go_wp2_with fail
      refine (TableValid_any T a c _ hx (by exact S0.reads 1 rfl)).mono ?_
      rw [hv]
      rintro e w1 ⟨rfl, hb⟩
      have S1 := S0.below hb
      obtain ⟨x0, x1, x2, x3, x4, x5, xz⟩ := facts3 (S1.cells 0 rfl)
      go_wp2_with (go_at_call 29; refine (isKey_any _ _).mono ?_; rintro e w' ⟨rfl, rfl⟩)
      refine (homeIn_any T a c key _ hv k0 k1).mono ?_
      rintro e w2 ⟨rfl, hb2⟩
      go_wp2
      go_ret
      exact ⟨ret_int (homeOf_yes hv hk), (S1.below hb2).old⟩

end Go.Proofs.YtfkdandmedojpaaDoor

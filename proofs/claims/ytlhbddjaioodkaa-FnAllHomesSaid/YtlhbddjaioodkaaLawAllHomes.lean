/-
  The law FnAllHomes: the walk.
-/
import Derived.Test.YtlhbddjaioodkaaCame
import Derived.Test.YtlhbddjaioodkaaHome
namespace Go.Proofs.Ytlhbddjaioodkaa
open Go.RowKit

set_option maxHeartbeats 2000000 in
theorem walkFnAllHomes (w : World) (a : Option Addr) (len cap : Nat) (zs : List Int) (h : IsRow .u8 w a len cap zs) :
    Calls Try.prog 7 #[.slice a len cap] w fun e w' => e = .returned (.bool true) ∧ Below w.heap.size w w' := by
  obtain ⟨ys, rfl, hC, S0⟩ := came_of h
  clear h
  by_cases hs : ys.length ≤ 1048576
  · have t1 : decide (1048576 < (ys.length : Int)) = false := by simp; omega
    go_enter Try.func7, Try.ntmps7
    go_wp2_with fail
    refine (DrawHomeOf_any (by exact S0) hC).mono ?_
    rintro e w1 ⟨T, a1, c1, lo, hi, key, rfl, hT, ⟨k1, k2⟩, hlo, S1⟩
    obtain ⟨n1, n2⟩ := hT.len
    have S2 := S1.alloc #[.int .i64 T.t, .int .i64 T.p, .slice a1 T.zs.length c1] 25
    go_wp2_with fail
    refine (HomeOf_any T a1 c1 key _ (by omega) (by exact S2.ints 1 rfl)).mono ?_
    rintro e w2 ⟨rfl, hb⟩
    have S3 := S1.alloc1 hb
    clear S1 S2 hb
    obtain ⟨x0, x1, x2, x3, x4, x5, xz⟩ := facts3 (S3.cells 0 rfl)
    go_wp2_with fail
    clear x0 x1 x2 x3 x4 x5 xz
    refine (specHomeOf_any T a1 c1 key _ (by omega) (by exact S3.ints 1 rfl)).mono ?_
    rintro e w3 ⟨rfl, hb⟩
    have S4 := S3.below hb
    clear S3 hb
    obtain ⟨x0, x1, x2, x3, x4, x5, xz⟩ := facts3 (S4.cells 0 rfl)
    go_wp2_with fail
    clear x0 x1 x2 x3 x4 x5 xz
    refine (HomeOf_any T a1 c1 (key + 1) _ (by omega) (by exact S4.ints 1 rfl)).mono ?_
    rintro e w4 ⟨rfl, hb⟩
    have S5 := S4.below hb
    clear S4 hb
    obtain ⟨x0, x1, x2, x3, x4, x5, xz⟩ := facts3 (S5.cells 0 rfl)
    rcases homeOf_cases T key with ⟨e1, _⟩ | ⟨e1, hv, ⟨k3, k4⟩, b1, b2⟩
    · rw [e1]
      clear e1
      go_wp2_with fail
      go_ret
      exact ⟨rfl, S5.old⟩
    · rw [e1]
      clear e1
      have M := Lib.hid (home_apart_t T key)
      rcases homeOf_cases T (key + 1) with ⟨e2, _⟩ | ⟨e2, _, _, b3, b4⟩
      · rw [e2]
        clear e2
        have d1 : decide (homeI T key < 0) = false := decide_eq_false (by omega)
        go_wp2_with fail
        go_ret
        exact ⟨rfl, S5.old⟩
      · rw [e2]
        clear e2
        have E3 := Lib.hid (home_far T key)
        have C3 := Lib.hid (homeOf_cases T (key + T.zs.length))
        obtain ⟨⟨v1, v2⟩, ⟨v3, v4⟩, _⟩ := valid_facts hv
        have HV := Lib.hid hv
        clear hv
        have d1 : decide (homeI T key < 0) = false := decide_eq_false (by omega)
        have d2 : decide (homeI T (key + 1) < 0) = false := decide_eq_false (by omega)
        generalize homeI T (key + 1) = g at *
        generalize homeI T key = h at *
        have m1 : ((g - h - T.t).tmod ↑T.zs.length != 0) = false := by rw [M.out]; rfl
        go_wp2_with fail
        clear x0 x1 x2 x3 x4 x5 xz
        refine (HomeOf_any T a1 c1 (key + T.zs.length) _ (by omega) (by exact S5.ints 1 rfl)).mono ?_
        rintro e w5 ⟨rfl, hb⟩
        have S6 := S5.below hb
        clear hb
        rcases C3.out with ⟨e3, _⟩ | ⟨e3, _⟩
        · rw [e3]
          clear e3
          go_wp2_with fail
          go_ret
          exact ⟨rfl, S6.old⟩
        · rw [e3, E3.out]
          clear e3
          go_wp2_with fail
          go_ret
          exact ⟨by simp, S6.old⟩
  · have t1 : decide (1048576 < (ys.length : Int)) = true := by simp; omega
    go_enter Try.func7, Try.ntmps7
    go_wp2_with fail
    go_ret
    exact ⟨rfl, S0.old⟩

end Go.Proofs.Ytlhbddjaioodkaa

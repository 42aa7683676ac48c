/-
  The law FnHome: the walk.
-/
import Derived.Test.YtlhbddjaioodkaaCame
import Derived.Test.YtlhbddjaioodkaaHome
import Derived.Test.YtlhbddjaioodkaaNew
import Derived.Test.YtlhbddjaioodkaaSame
namespace Go.Proofs.Ytlhbddjaioodkaa
open Go.RowKit

theorem home_rest_t (T : Tab) (key : Int) : (T.t * key + T.p - homeI T key).tmod T.zs.length = 0 := Int.tmod_eq_zero_of_dvd (Int.dvd_of_emod_eq_zero (home_rest T key))

theorem newTab_valid (n t p : Int) : validB (newTab n t p) = headB n t p := by
  unfold newTab
  split
  · rename_i h
    rw [h]
    obtain ⟨h1, _, _⟩ := head_size h
    obtain ⟨n1, n2⟩ := inB_iff.1 h1
    rw [validB_iff]
    refine ⟨?_, fun i hi => ?_⟩
    · show headB ((List.replicate n.toNat (-1 : Int)).length : Int) t p = true
      rw [List.length_replicate, show ((n.toNat : Nat) : Int) = n by omega, h]
    · simp only [List.length_replicate] at hi
      have e : nth (List.replicate n.toNat (-1 : Int)) i = -1 := by simp [nth, hi]
      rw [e]
      exact ⟨rfl, fun h => by omega⟩
  · rename_i h
    have : headB n t p = false := by simpa using h
    rw [this]
    rfl

theorem homeOf_zone {T : Tab} {key : Int} (h : homeOf T key = -1) : validB T = false ∨ key < 0 ∨ 99 < key := by
  rcases homeOf_cases T key with ⟨_, h1 | h1⟩ | ⟨h1, _, _, h2, _⟩
  · exact .inl h1
  · rw [inB_false] at h1; omega
  · omega

set_option maxHeartbeats 4000000 in
theorem walkFnHome (w : World) (a : Option Addr) (len cap : Nat) (zs : List Int) (h : IsRow .u8 w a len cap zs) (a' : Option Addr) (len' cap' : Nat) (zs' : List Int) (h' : IsRow .u8 w a' len' cap' zs') :
    Calls Try.prog 3 #[.slice a len cap, .slice a' len' cap'] w fun e w' => e = .returned (.bool true) ∧ Below w.heap.size w w' := by
  obtain ⟨ys, rfl, hC, S0⟩ := came_of h
  obtain ⟨ys', rfl, hC', S0'⟩ := came_of h'
  have SS := S0'.add (It.bytes w.heap.size a ys) (Nat.le_refl _) (S0.get 0 rfl)
  clear h h' S0'
  by_cases hs : ys.length ≤ 1048576
  · have t1 : decide (1048576 < (ys.length : Int)) = false := by simp; omega
    by_cases hs' : ys'.length ≤ 1048576
    · have t2 : decide (1048576 < (ys'.length : Int)) = false := by simp; omega
      go_enter Try.func3, Try.ntmps3
      go_wp2_with fail
      refine (DrawHomeOf_any (by exact SS) hC).mono ?_
      rintro e w1 ⟨T, a1, c1, lo, hi, key, rfl, hT, ⟨k1, k2⟩, hlo, S1⟩
      obtain ⟨n1, n2⟩ := hT.len
      have S2 := S1.alloc #[.int .i64 T.t, .int .i64 T.p, .slice a1 T.zs.length c1] 25
      go_wp2_with fail
      refine (HomeOf_any T a1 c1 key _ (by omega) (by exact S2.ints 1 rfl)).mono ?_
      rintro e w2 ⟨rfl, hb⟩
      have S3 := (S1.alloc1 hb).turn (l' := [It.bytes w.heap.size a' ys', It.box w1.heap.size #[.int .i64 T.t, .int .i64 T.p, .slice a1 T.zs.length c1] 25, It.own lo hi a1 T.zs]) fun i hi => by
        simp only [List.mem_cons] at hi ⊢
        rcases hi with h | h | h | h
        · exact .inr (.inr (.inl h))
        · exact .inl h
        · exact .inr (.inl h)
        · cases h
      clear S1 S2 hb
      go_wp2_with fail
      refine (DrawNewTable_any (by exact S3) hC').mono ?_
      rintro e w3 ⟨n, t, p, rfl, ⟨r1, r2⟩, ⟨r3, r4⟩, ⟨r5, r6⟩, S4⟩
      clear S3
      have hN := newTab_len n t p
      have hV := Lib.hid (newTab_valid n t p)
      have hspec := Lib.hid fun W => specNewTable_any n t p W
      have himpl := Lib.hid fun W => NewTable_any n t p W
      generalize newTab n t p = N at hN hV hspec himpl
      generalize headB n t p = ok at hV hspec himpl
      go_wp2_with fail
      refine (himpl.out _).mono ?_
      rintro e w4 ⟨a4, c4, rfl, ho, hb⟩
      have S5 := (S4.below hb).own ho
      clear S4 ho hb
      go_wp2_with fail
      refine (hspec.out _).mono ?_
      rintro e w5 ⟨a5, c5, rfl, ho, hb⟩
      have S6 := (S5.alloc1 hb).own ho
      clear S5 ho hb
      have S7 := S6.alloc #[.int .i64 N.t, .int .i64 N.p, .slice a5 N.zs.length c5] 25
      obtain ⟨x0, x1, x2, x3, x4, x5, xz⟩ := facts3 (S7.cells 4 rfl)
      go_wp2_with fail
      clear x0 x1 x2 x3 x4 x5 xz
      refine (specHomeOf_any T a1 c1 key _ (by omega) (by exact S7.ints 5 rfl)).mono ?_
      rintro e w6 ⟨rfl, hb⟩
      have S8 := S6.alloc1 hb
      clear S6 S7 hb
      obtain ⟨x0, x1, x2, x3, x4, x5, xz⟩ := facts3 (S8.cells 0 rfl)
      obtain ⟨y0, y1, y2, y3, y4, y5, yz⟩ := facts3 (S8.cells 2 rfl)
      go_wp2_with fail
      clear x0 x1 x2 x3 x4 x5 xz y0 y1 y2 y3 y4 y5 yz
      refine (SameTable_any N N a4 a5 c4 c5 _ (by omega) (by omega) (by exact S8.ints 3 rfl) (by exact S8.ints 1 rfl)).mono ?_
      rintro e w7 ⟨rfl, hb⟩
      rw [show sameB N N = true by simp [sameB]]
      have S9 := S8.below hb
      clear S8 hb
      obtain ⟨y0, y1, y2, y3, y4, y5, yz⟩ := facts3 (S9.cells 2 rfl)
      go_wp2_with fail
      clear y0 y1 y2 y3 y4 y5 yz
      refine (TableValid_any N a4 c4 _ (by omega) (by exact S9.ints 3 rfl)).mono ?_
      rintro e w8 ⟨rfl, hb⟩
      rw [hV.out]
      have S10 := S9.below hb
      clear S9 hb hV hspec himpl
      obtain ⟨x0, x1, x2, x3, x4, x5, xz⟩ := facts3 (S10.cells 4 rfl)
      have Z := Lib.hid (homeOf_zone (T := T) (key := key))
      rcases homeOf_cases T key with ⟨e1, _⟩ | ⟨e1, hv, ⟨k3, k4⟩, b1, b2⟩
      · have Z2 := Lib.hid (Z.out e1)
        clear Z
        rw [e1]
        clear e1
        go_wp2_with fail
        clear x0 x1 x2 x3 x4 x5 xz
        refine (TableValid_any T a1 c1 _ (by omega) (by exact S10.ints 5 rfl)).mono ?_
        rintro e w9 ⟨rfl, hb⟩
        have S11 := S10.below hb
        clear S10 hb
        rcases Z2.out with z | z | z
        · rw [z]
          clear z
          go_wp2_with fail
          go_ret
          exact ⟨rfl, S11.old⟩
        · have z1 : decide (key < 0) = true := decide_eq_true z
          cases validB T
          all_goals
            go_wp2_with fail
            go_ret
            exact ⟨rfl, S11.old⟩
        · have z1 : decide (key < 0) = false := decide_eq_false (by omega)
          have z2 : decide (99 < key) = true := decide_eq_true z
          cases validB T
          all_goals
            go_wp2_with fail
            go_ret
            exact ⟨rfl, S11.old⟩
      · clear Z
        rw [e1]
        clear e1
        obtain ⟨⟨v1, v2⟩, ⟨v3, v4⟩, ⟨v5, v6⟩, _⟩ := valid_facts hv
        have m0 := mul_nonneg' v3 k3
        have m1 := (mul_bounds v3 v4 (k := key) (by omega) k4).2
        have M := Lib.hid (home_rest_t T key)
        have HV := Lib.hid hv
        clear hv
        generalize homeI T key = g at *
        have d1 : decide (g < 0) = false := decide_eq_false (by omega)
        have d2 : decide (g < (T.zs.length : Int)) = true := decide_eq_true b2
        have ln : ((T.zs.length : Int) == 0) = false := beq_eq_false_iff_ne.2 (by omega)
        go_wp2_with fail
        go_ret
        exact ⟨ret_bool (by rw [M.out]; rfl), S10.old⟩
    · have t2 : decide (1048576 < (ys'.length : Int)) = true := by simp; omega
      go_enter Try.func3, Try.ntmps3
      go_wp2_with fail
      go_ret
      exact ⟨rfl, S0.old⟩
  · have t1 : decide (1048576 < (ys.length : Int)) = true := by simp; omega
    go_enter Try.func3, Try.ntmps3
    go_wp2_with fail
    go_ret
    exact ⟨rfl, S0.old⟩

end Go.Proofs.Ytlhbddjaioodkaa

/-
  AwayOf, of the program and of the model.
-/
import Derived.Test.YtkdkdmjhhgllgaaGreatDoorBase
import Derived.Test.YtkdkdmjhhgllgaaGreatDoorMath
import Derived.Deep.RegionHeld3
namespace Go.Proofs.YtkdkdmjhhgllgaaGreatDoor
open Go.RowKit

/-- A new block of two cells behind what keeps it. -/
theorem two_new (w : World) (x y : Value) (t : TypeId) : (w.alloc (.cells #[x, y] t)).cell? ⟨w.heap.size, 0, none⟩ = some x ∧ (w.alloc (.cells #[x, y] t)).cell? ⟨w.heap.size, 1, none⟩ = some y := by
  constructor
  · rw [World.cell?_alloc_at _ _ _ _ rfl]; rfl
  · rw [World.cell?_alloc_at _ _ _ _ rfl]; rfl

set_option maxHeartbeats 400000 in
theorem at_any (T : Tab) (g k : Nat) (w : World) (hv : validB T = true) (hk : k < T.zs.length) (hg : g < w.heap.size) (hr : RingAt w g T) :
    Calls Tryz.prog 98 #[.slice (some ⟨g, 0, none⟩) T.zs.length T.zs.length, .int .i64 k] w
      fun e w' => e = .returned (.agg #[.int .i64 (nth T.zs k), .int .i64 (homeT T (nth T.zs k))]) ∧ Below w.heap.size w w' := by
  obtain ⟨⟨l1, l2⟩, _⟩ := valid_facts hv
  obtain ⟨r0, r1⟩ := (hr.below ((Below.refl _ w).alloc (Nat.le_refl _) (.cells #[.int .i64 0, .int .i64 0] 73)) hg) k hk
  generalize nth T.zs k = x at r0 r1
  have hm : ((k : Int) % (T.zs.length : Int)) = k := Int.emod_eq_of_lt (by omega) (by omega)
  have HM := Lib.hid hm
  clear hm hr
  go_enter Tryz.func98, Tryz.ntmps98
  go_wp2_with fail
  refine (wrap_any _ _ _ k _ l1 l2 (by omega) (by omega)).mono ?_
  rw [HM.out]
  rintro e w' ⟨rfl, rfl⟩
  go_wp2
  obtain ⟨n0, n1⟩ := two_new w (.int .i64 x) (.int .i64 (homeT T x)) 73
  exact bodyPost_ret (v := .agg #[.int .i64 x, .int .i64 (homeT T x)]) (by simp [results, Tryz.results98, go_sem, n0, n1]) rfl ⟨rfl, (Below.refl _ _).alloc (Nat.le_refl _) _⟩

theorem keep4 {W W' : World} {b1 b2 o : Nat} {x0 x1 x2 y0 : Value} (hb : Below W.heap.size W W') (z1 : b1 < W.heap.size) (z2 : b2 < W.heap.size)
    (h : W.cell? ⟨b1, 0, none⟩ = some x0 ∧ W.cell? ⟨b1, 1, none⟩ = some x1 ∧ W.cell? ⟨b1, 2, none⟩ = some x2 ∧ W.cell? ⟨b2, o, none⟩ = some y0) :
    W'.cell? ⟨b1, 0, none⟩ = some x0 ∧ W'.cell? ⟨b1, 1, none⟩ = some x1 ∧ W'.cell? ⟨b1, 2, none⟩ = some x2 ∧ W'.cell? ⟨b2, o, none⟩ = some y0 :=
  ⟨(hb.cell (p := ⟨b1, 0, none⟩) z1).trans h.1, (hb.cell (p := ⟨b1, 1, none⟩) z1).trans h.2.1, (hb.cell (p := ⟨b1, 2, none⟩) z1).trans h.2.2.1, (hb.cell (p := ⟨b2, o, none⟩) z2).trans h.2.2.2⟩

/-- The box of a table, and its slots, in front of TableValid. -/
theorem tabBox {w : World} {T : Tab} {a : Option Addr} (c : Nat) (t : TypeId) (h1 : IntsAt w a T.zs) : St w (w.alloc (.cells #[.int .i64 T.t, .int .i64 T.p, .slice a T.zs.length c] t)) [It.box w.heap.size #[.int .i64 T.t, .int .i64 T.p, .slice a T.zs.length c] t, It.read w.heap.size a T.zs] :=
  ((St.start w).read h1).alloc _ _

set_option maxHeartbeats 1000000 in
theorem AwayOf_any (T : Tab) (a : Option Addr) (c : Nat) (slot : Int) (w : World) (hx : T.zs.length ≤ 9223372036854775807) (h1 : IntsAt w a T.zs) :
    Calls Tryz.prog 73 #[tabV T a c, .int .i64 slot] w fun e w' => e = .returned (.int .i64 (awayOf T slot)) ∧ Below w.heap.size w w' := by
  have S0 := tabBox c 25 h1
  cases hv : validB T
  · go_enter Tryz.func73, Tryz.ntmps73
    go_wp2_with fail
    refine (TableValid_any T a c _ hx (by exact S0.reads 1 rfl)).mono ?_
    rw [hv]
    rintro e w1 ⟨rfl, hb⟩
    have S1 := S0.below hb
    go_wp2
    go_ret
    exact ⟨ret_int (awayOf_no (.inl hv)), S1.old⟩
  · by_cases h0 : slot < 0
    · go_enter Tryz.func73, Tryz.ntmps73
      go_wp2_with fail
      refine (TableValid_any T a c _ hx (by exact S0.reads 1 rfl)).mono ?_
      rw [hv]
      rintro e w1 ⟨rfl, hb⟩
      have S1 := S0.below hb
      go_wp2
      go_ret
      exact ⟨ret_int (awayOf_no (.inr (.inl (inB_false.2 (by omega))))), S1.old⟩
    · obtain ⟨k, rfl⟩ : ∃ k : Nat, slot = k := ⟨slot.toNat, by omega⟩
      by_cases hk : k < T.zs.length
      · have t1 : decide ((k : Int) < 0) = false := by simp
        have t2 : decide ((T.zs.length : Int) ≤ (k : Int)) = false := by simp; omega
        obtain ⟨⟨l1, l2⟩, _⟩ := valid_facts hv
        have hs := valid_slot hv hk
        obtain ⟨x, hX⟩ : ∃ x, nth T.zs k = x := ⟨_, rfl⟩
        rw [hX] at hs
        have X := Lib.hid hX
        clear hX
        obtain ⟨hs1, hs2⟩ := hs
        go_enter Tryz.func73, Tryz.ntmps73
        go_wp2_with fail
        refine (TableValid_any T a c _ hx (by exact S0.reads 1 rfl)).mono ?_
        rw [hv]
        rintro e w1 ⟨rfl, hb⟩
        have S1 := S0.below hb
        clear S0 hb
        obtain ⟨x0, x1, x2, x3, x4, x5, xz⟩ := facts3 (S1.cells 0 rfl)
        go_wp2_with fail
        refine (ringOf_any T a c _ (by exact S1.reads 1 rfl) hv).mono ?_
        rintro e w2 ⟨g, rfl, hg0, hg, hr, hb⟩
        have S2 := S1.below hb
        clear S1 hb x0 x1 x2 x3 x4 x5 xz
        go_wp2_with fail
        refine (at_any T g k _ hv hk hg hr).mono ?_
        rw [X.out]
        rintro e w3 ⟨rfl, hb⟩
        have S3 := S2.below hb
        clear S2 hb
        by_cases hx0 : 0 ≤ x
        · have hk1 : inB x 0 99 = true := inB_true ⟨hx0, hs2⟩
          have hh := homeI_bounds hv x
          rw [← homeT_key hv hx0] at hh
          obtain ⟨hh1, hh2⟩ := hh
          go_wp2_with (first | (go_at_call 66; refine (heldIsKey_any _ _).mono ?_; rintro e w' ⟨rfl, rfl⟩))
          refine (wrap_any _ _ _ _ _ l1 l2 (by omega) (by omega)).mono ?_
          rintro e w4 ⟨rfl, rfl⟩
          go_wp2
          go_ret
          exact ⟨ret_int (by rw [homeT_key hv hx0]; exact awayOf_yes hv hk X.out hx0), (S3.below ((Below.refl _ _).alloc (Nat.le_refl _) _)).old⟩
        · have hk1 : inB x 0 99 = false := inB_false.2 (by omega)
          go_wp2_with (first | (go_at_call 66; refine (heldIsKey_any _ _).mono ?_; rintro e w' ⟨rfl, rfl⟩))
          go_ret
          exact ⟨ret_int (awayOf_no (.inr (.inr (by rw [Int.toNat_natCast, X.out]; omega)))), (S3.below ((Below.refl _ _).alloc (Nat.le_refl _) _)).old⟩
      · have t1 : decide ((k : Int) < 0) = false := by simp
        have t2 : decide ((T.zs.length : Int) ≤ (k : Int)) = true := by simp; omega
        go_enter Tryz.func73, Tryz.ntmps73
        go_wp2_with fail
        refine (TableValid_any T a c _ hx (by exact S0.reads 1 rfl)).mono ?_
        rw [hv]
        rintro e w1 ⟨rfl, hb⟩
        have S1 := S0.below hb
        obtain ⟨x0, x1, x2, x3, x4, x5, xz⟩ := facts3 (S1.cells 0 rfl)
        go_wp2
        go_ret
        exact ⟨ret_int (awayOf_no (.inr (.inl (inB_false.2 (by omega))))), S1.old⟩

set_option maxHeartbeats 400000 in
theorem l1Away_any (T : Tab) (a : Option Addr) (c : Nat) (h s : Int) (w : World) (l1 : 1 ≤ T.zs.length) (l2 : T.zs.length ≤ 16) (h0 : 0 ≤ h) (h1 : h < T.zs.length) (s0 : 0 ≤ s) (s1 : s < T.zs.length) :
    Calls Tryz.prog 54 #[tabV T a c, .int .i64 h, .int .i64 s] w fun e w' => e = .returned (.int .i64 ((s - h) % T.zs.length)) ∧ Below w.heap.size w w' := by
  have ln : ((T.zs.length : Int) == 0) = false := beq_eq_false_iff_ne.2 (by omega)
  go_enter Tryz.func54, Tryz.ntmps54
  go_wp2
  go_ret
  exact ⟨ret_int (by rw [Int.add_emod_right]), (Below.refl _ _).alloc (Nat.le_refl _) _⟩

end Go.Proofs.YtkdkdmjhhgllgaaGreatDoor

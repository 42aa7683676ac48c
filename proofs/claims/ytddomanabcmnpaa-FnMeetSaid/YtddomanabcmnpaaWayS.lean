/-
  Ways around: the model's l7Asked, l7At, l7Way, WayOf, ReachOf, IsWhole.
-/
import Derived.Test.YtddomanabcmnpaaSort
import Derived.Test.YtddomanabcmnpaaMath
namespace Go.Proofs.Ytddomanabcmnpaa
open Go.RowKit

theorem specAsked_any (n k s : Int) (w : World) :
    Calls Try.prog 43 #[.int .i64 n, .int .i64 k, .int .i64 s] w fun e w' => e = .returned (.bool (askW n k s)) ∧ w = w' := by
  cases h1 : inB n 1 16
  · have R := Lib.hid (show askW n k s = false by simp [askW, h1])
    go_enter Try.func43, Try.ntmps43
    go_wp2_with (first | (go_at_call 51; refine (l1In_any _ _ _ _).mono ?_; rintro e w' ⟨rfl, rfl⟩; rw [h1]))
    go_ret
    exact ⟨by rw [R.out]; rfl, rfl⟩
  · cases h2 : inB k 0 2
    · have R := Lib.hid (show askW n k s = false by simp [askW, h1, h2])
      go_enter Try.func43, Try.ntmps43
      go_wp2_with (first | (go_at_call 51; refine (l1In_any _ _ _ _).mono ?_; rintro e w' ⟨rfl, rfl⟩; first | rw [h1] | rw [h2]))
      go_ret
      exact ⟨by rw [R.out]; rfl, rfl⟩
    · have R := Lib.hid (show askW n k s = inB s 0 16 by simp [askW, h1, h2])
      go_enter Try.func43, Try.ntmps43
      go_wp2_with (first | (go_at_call 51; refine (l1In_any _ _ _ _).mono ?_; rintro e w' ⟨rfl, rfl⟩; first | rw [h1] | rw [h2] | skip))
      go_ret
      exact ⟨by rw [R.out]; rfl, rfl⟩

theorem far_bounds {s i : Nat} (hs : s ≤ 16) (hi : i ≤ 16) : s * i ≤ 256 ∧ s * i * (i + 1) ≤ 4352 ∧ s * i * i ≤ 4352 :=
  ⟨Nat.mul_le_mul hs hi, Nat.mul_le_mul (Nat.mul_le_mul hs hi) (show i + 1 ≤ 17 by omega), Nat.mul_le_mul (Nat.mul_le_mul hs hi) (show i ≤ 17 by omega)⟩
theorem farK_le {k s i : Nat} (hs : s ≤ 16) (hi : i ≤ 16) : farK k s i ≤ 4352 := by
  obtain ⟨h1, h2, h3⟩ := far_bounds hs hi
  unfold farK
  split
  · omega
  · split <;> omega

set_option maxHeartbeats 1000000 in
theorem specAt_any (k s i : Nat) (w : World) (hk : k ≤ 2) (hs : s ≤ 16) (hi : i ≤ 16) :
    Calls Try.prog 56 #[.int .i64 k, .int .i64 s, .int .i64 i] w fun e w' => e = .returned (.int .i64 (farK k s i : Nat)) ∧ w = w' := by
  obtain ⟨b1, b2, b3⟩ := far_bounds hs hi
  obtain ⟨p, hp⟩ : ∃ p, p = s * i := ⟨_, rfl⟩
  have P1 : (s : Int) * (i : Int) = (p : Int) := by rw [hp]; exact (Int.natCast_mul s i).symm
  have hk' : k = 0 ∨ k = 1 ∨ k = 2 := by omega
  rcases hk' with rfl | rfl | rfl
  · have R := Lib.hid (show farK 0 s i = p by rw [hp]; rfl)
    rw [← hp] at b1 b2 b3
    clear hp b2 b3
    go_enter Try.func56, Try.ntmps56
    go_wp2
    go_ret
    exact ⟨by rw [R.out]; rfl, rfl⟩
  · have R := Lib.hid (show farK 1 s i = p * (i + 1) / 2 by rw [hp]; rfl)
    rw [← hp] at b1 b2 b3
    clear hp b3
    obtain ⟨q, hq⟩ : ∃ q, q = p * (i + 1) := ⟨_, rfl⟩
    have P2 : (p : Int) * ((i : Int) + 1) = (q : Int) := by rw [hq, Int.natCast_mul]; rfl
    rw [← hq] at b2 R
    clear hq
    go_enter Try.func56, Try.ntmps56
    go_wp2
    go_ret
    exact ⟨by rw [R.out]; rfl, rfl⟩
  · have R := Lib.hid (show farK 2 s i = p * i by rw [hp]; rfl)
    rw [← hp] at b1 b2 b3
    clear hp b2
    obtain ⟨q, hq⟩ : ∃ q, q = p * i := ⟨_, rfl⟩
    have P2 : (p : Int) * (i : Int) = (q : Int) := by rw [hq, Int.natCast_mul]
    rw [← hq] at b3 R
    clear hq
    go_enter Try.func56, Try.ntmps56
    go_wp2
    go_ret
    exact ⟨by rw [R.out]; rfl, rfl⟩

theorem atW_int (n k s h i : Nat) : ((h : Int) + ((farK k s i : Nat) : Int)) % (n : Int) = ((atW n k s h i : Nat) : Int) := by
  unfold atW
  rw [Int.natCast_emod, Int.natCast_add]

set_option maxHeartbeats 2000000 in
set_option maxRecDepth 100000 in
theorem specWayL_any (n k s h : Nat) (w : World) (n1 : 1 ≤ n) (n2 : n ≤ 16) (hk : k ≤ 2) (hs : s ≤ 16) (hh : h < n) :
    Calls Try.prog 45 #[.int .i64 n, .int .i64 k, .int .i64 s, .int .i64 h] w fun e w' => ∃ (a' : Option Addr) (c' : Nat), e = .returned (.slice a' (wayL n k s h).length c') ∧ OwnInts w' w.heap.size a' (wayL n k s h) ∧ Below w.heap.size w w' := by
  obtain ⟨i0, hi, hz0, hz1, hz2⟩ := info_parts Try.info3
  have HI := Lib.hid hi; have HZ0 := Lib.hid hz0; have HZ1 := Lib.hid hz1; have HZ2 := Lib.hid hz2
  clear hi hz0 hz1 hz2
  have S0 := (St.start w).below ((Below.refl _ w).alloc (Nat.le_refl _) (.cells #[] 3)) |>.add (It.row w.heap.size (w.heap.size + 1) (.slice (some ⟨w.heap.size, 0, none⟩) 0 0) []) (by simp [It.row]) ⟨row_start w, fun k e => by cases e; simp⟩
  go_enter Try.func45, Try.ntmps45
  go_wp2_with fail
  go_loopw [9, 10, 13] (fun x _ z wr => ∃ (j : Nat) (v : Value) (xs : List Int) (hi' : Nat), j ≤ n ∧ z = .int .i64 j ∧ x = v ∧ xs = wayTo n k s h j ∧ w.heap.size < wr.heap.size ∧
      St w wr [It.row w.heap.size hi' v xs]) (fun _ _ z _ => n - (intOf z).toNat)
  case atStart => exact ⟨0, _, [], _, Nat.zero_le _, rfl, rfl, rfl, S0.sz 0 rfl, S0⟩
  case round =>
    obtain ⟨j, v, xs, hi', hj, rfl, rfl, hxs, hz, Sr⟩ := hrel
    have X := Lib.hid hxs
    have hxl : xs.length ≤ 16 := by rw [hxs, wayTo_len]; omega
    clear hxs S0
    by_cases hlt : j < n
    · have hown := Sr.rows 0 rfl
      have F5 := fun v => (show Far (It.row w.heap.size hi' v xs) [] from trivial)
      have HA := Lib.hid (atW_int n k s h j)
      have hf := farK_le (k := k) hs (show j ≤ 16 by omega)
      have w3 : ((n : Int) == 0) = false := beq_eq_false_iff_ne.2 (by omega)
      have al := Lib.hid (atW_lt n1 k s h j)
      have AL := Lib.hid (specAt_any k s j wr hk hs (by omega))
      generalize farK k s j = F at hf HA AL
      go_wp2_with (first | (go_at_call 56; refine AL.out.mono ?_; rintro e w' ⟨rfl, rfl⟩) | (at_builtin; refine wpList_append_own _ rfl _ _ 33 rfl w.heap.size 3 i0 (.int .i64 0) 1 8 Try.underlying33 HI.out HZ0.out HZ1.out HZ2.out rfl (by decide) _ _ _ rfl (hown.alloc _) ⟨wr.heap.size, 0, none⟩ 1 1 [.int .i64 _] rfl rfl (cell_one_new _ _ _) (by simp [Value.oneCell']) (by unfold maxLen; omega) (by omega) (by simp; omega) ?_))
      intro v' w5 hown5 hgrow5 _
      obtain ⟨g', cap', rfl⟩ := ownsRow_more hown5
      have S5 := Sr.append (F5 _) (Nat.le_refl _) _ hown5 hgrow5
      have z5 : w.heap.size < w5.heap.size := by have := hgrow5.size; simp at this; omega
      clear hown5 hgrow5 hown Sr
      go_wp2
      go_roundw
      case rel => exact ⟨j + 1, _, xs ++ [((atW n k s h j : Nat) : Int)], w5.heap.size, by omega, by go_num, rfl, by rw [X.out, wayTo_succ], z5, by rw [HA.out] at S5; exact S5⟩
      case measure => simp [intOf]; omega
    · obtain ⟨a', c', rfl⟩ := ownsRow_slice (Sr.rows 0 rfl)
      have O2 := Lib.hid (ownsRow_ints (Sr.rows 0 rfl))
      go_wp2
      go_ret
      have e : j = n := by omega
      have hx := X.out
      rw [e, wayTo_all] at hx
      subst hx
      exact ⟨a', c', rfl, O2.out, Sr.old⟩

theorem asks_no1 {n k s h : Int} (h1 : askW n k s = false) : asksW n k s h = false := by simp [asksW, h1]
theorem asks_no2 {n k s h : Int} (h1 : inB h 0 (n - 1) = false) : asksW n k s h = false := by simp [asksW, h1]
theorem asks_yes {n k s h : Int} (h1 : askW n k s = true) (h2 : inB h 0 (n - 1) = true) : asksW n k s h = true := by simp [asksW, h1, h2]

set_option maxHeartbeats 2000000 in
theorem specWayOf_any (n k s h : Int) (w : World) :
    Calls Try.prog 26 #[.int .i64 n, .int .i64 k, .int .i64 s, .int .i64 h] w fun e w' => ∃ (a' : Option Addr) (c' : Nat), e = .returned (.tuple #[.slice a' (wayI n k s h).length c', .bool (asksW n k s h)]) ∧ OwnInts w' w.heap.size a' (wayI n k s h) ∧ Below w.heap.size w w' := by
  have B0 := Lib.hid ((Below.refl _ w).alloc (Nat.le_refl _) (.cells #[] 3))
  have R0 := Lib.hid (ownsRow_ints (zs := []) (row_start w))
  cases h1 : askW n k s
  · have R := Lib.hid (wayI_no (asks_no1 (h := h) h1))
    have R2 := Lib.hid (asks_no1 (h := h) h1)
    go_enter Try.func26, Try.ntmps26
    go_wp2_with (first | (go_at_call 43; refine (specAsked_any _ _ _ _).mono ?_; rintro e w' ⟨rfl, rfl⟩; rw [h1]))
    go_ret2
    exact ⟨_, _, by rw [R.out, R2.out]; rfl, by rw [R.out]; exact R0.out, B0.out⟩
  · obtain ⟨N, K, S, rfl, rfl, rfl, n1, n2, hk, hs⟩ := askW_nat h1
    cases h2 : inB h 0 ((N : Int) - 1)
    · have R := Lib.hid (wayI_no (asks_no2 (k := K) (s := S) h2))
      have R2 := Lib.hid (asks_no2 (k := K) (s := S) h2)
      go_enter Try.func26, Try.ntmps26
      go_wp2_with (first | (go_at_call 43; refine (specAsked_any _ _ _ _).mono ?_; rintro e w' ⟨rfl, rfl⟩; rw [h1]) | (go_at_call 51; refine (l1In_any _ _ _ _).mono ?_; rintro e w' ⟨rfl, rfl⟩; rw [h2]))
      go_ret2
      exact ⟨_, _, by rw [R.out, R2.out]; rfl, by rw [R.out]; exact R0.out, B0.out⟩
    · obtain ⟨N', K', S', H, e1, e2, e3, rfl, m1, m2, m3, m4, m5⟩ := asksW_nat (asks_yes h1 h2)
      obtain rfl : N = N' := by omega
      obtain rfl : K = K' := by omega
      obtain rfl : S = S' := by omega
      clear e1 e2 e3
      have R := Lib.hid (wayI_yes (asks_yes h1 h2))
      have R2 := Lib.hid (asks_yes h1 h2)
      go_enter Try.func26, Try.ntmps26
      go_wp2_with (first | (go_at_call 43; refine (specAsked_any _ _ _ _).mono ?_; rintro e w' ⟨rfl, rfl⟩; rw [h1]) | (go_at_call 51; refine (l1In_any _ _ _ _).mono ?_; rintro e w' ⟨rfl, rfl⟩; rw [h2]) | (go_at_call 45; refine (specWayL_any N K S H _ n1 n2 hk hs m5).mono ?_; rintro e w' ⟨a', c', rfl, ho, hb⟩))
      go_ret2
      exact ⟨a', c', by rw [R.out, R2.out]; rfl, by rw [R.out]; exact ho, hb⟩

set_option maxHeartbeats 2000000 in
theorem specReachOf_any (n k s : Int) (w : World) :
    Calls Try.prog 20 #[.int .i64 n, .int .i64 k, .int .i64 s] w fun e w' => e = .returned (.int .i64 (reachI n k s)) ∧ Below w.heap.size w w' := by
  cases h1 : askW n k s
  · have R := Lib.hid (reachI_no h1)
    go_enter Try.func20, Try.ntmps20
    go_wp2_with (first | (go_at_call 43; refine (specAsked_any _ _ _ _).mono ?_; rintro e w' ⟨rfl, rfl⟩; rw [h1]))
    go_ret
    exact ⟨by rw [R.out]; rfl, Below.refl _ _⟩
  · obtain ⟨N, K, S, rfl, rfl, rfl, n1, n2, hk, hs⟩ := askW_nat h1
    have R := Lib.hid (reachI_yes h1)
    have R2 := Lib.hid (sort_reach (k := K) (s := S) n1 n2)
    have R3 := Lib.hid (wayL_len N K S 0)
    go_enter Try.func20, Try.ntmps20
    go_wp2_with (first | (go_at_call 43; refine (specAsked_any _ _ _ _).mono ?_; rintro e w' ⟨rfl, rfl⟩; rw [h1]) | (go_at_call 45; refine (specWayL_any N K S 0 _ n1 n2 hk hs n1).mono ?_; rintro e w1 ⟨a1, c1, rfl, ho, hb⟩) | (go_at_call 44; refine (l1Sort_any a1 c1 (wayL N K S 0) _ (by rw [R3.out]; omega) (by exact ho.ints)).mono ?_; rintro e w2 ⟨a2, c2, rfl, ho2, hb2⟩))
    go_ret
    exact ⟨by rw [R.out, ← R2.out]; rfl, hb.trans (hb2.mono hb.size)⟩

set_option maxHeartbeats 2000000 in
theorem specIsWhole_any (n k s : Int) (w : World) :
    Calls Try.prog 22 #[.int .i64 n, .int .i64 k, .int .i64 s] w fun e w' => e = .returned (.bool (wholeB n k s)) ∧ Below w.heap.size w w' := by
  have R := Lib.hid (wholeB_reach n k s)
  have A0 := Lib.hid (specReachOf_any n k s w)
  generalize reachI n k s = x at R A0
  cases h1 : decide (0 ≤ x)
  · go_enter Try.func22, Try.ntmps22
    go_wp2_with (first | (go_at_call 20; refine A0.out.mono ?_; rintro e w' ⟨rfl, hb⟩))
    go_ret
    exact ⟨by rw [← R.out, h1]; rfl, hb⟩
  · go_enter Try.func22, Try.ntmps22
    go_wp2_with (first | (go_at_call 20; refine A0.out.mono ?_; rintro e w' ⟨rfl, hb⟩))
    go_ret
    exact ⟨by rw [← R.out, h1]; simp [BEq.beq], hb⟩

theorem wayI_nth {n k s h : Nat} (ha : asksW n k s h = true) {i : Nat} (hi : i < n) : nth (wayI n k s h) i = ((atW n k s h i : Nat) : Int) := by rw [wayI_yes ha, nth_wayL hi]
theorem wayI_len_yes {n k s h : Nat} (ha : asksW n k s h = true) : (wayI n k s h).length = n := by rw [wayI_yes ha, wayL_len]

set_option maxHeartbeats 2000000 in
theorem specMeetAt_any (n f o s t : Int) (w : World) :
    Calls Try.prog 36 #[.int .i64 n, .int .i64 f, .int .i64 o, .int .i64 s, .int .i64 t] w fun e w' => e = .returned (.int .i64 (meetI n f o s t)) ∧ Below w.heap.size w w' := by
  cases h1 : asksW n 0 o f
  · have R := Lib.hid (meetI_no (s := s) (t := t) (.inl h1))
    go_enter Try.func36, Try.ntmps36
    go_wp2_with fail
    refine (specWayOf_any n 0 o f w).mono ?_
    rw [h1]
    rintro e w1 ⟨a1, c1, rfl, ho, hb⟩
    go_wp2_with fail
    refine (specWayOf_any n 0 t s w1).mono ?_
    rintro e w2 ⟨a2, c2, rfl, ho2, hb2⟩
    go_wp2
    go_ret
    exact ⟨by rw [R.out]; rfl, hb.trans (hb2.mono hb.size)⟩
  · cases h2 : asksW n 0 t s
    · have R := Lib.hid (meetI_no (f := f) (o := o) (.inr h2))
      go_enter Try.func36, Try.ntmps36
      go_wp2_with fail
      refine (specWayOf_any n 0 o f w).mono ?_
      rw [h1]
      rintro e w1 ⟨a1, c1, rfl, ho, hb⟩
      go_wp2_with fail
      refine (specWayOf_any n 0 t s w1).mono ?_
      rw [h2]
      rintro e w2 ⟨a2, c2, rfl, ho2, hb2⟩
      go_wp2
      go_ret
      exact ⟨by rw [R.out]; rfl, hb.trans (hb2.mono hb.size)⟩
    · obtain ⟨N, K, O, F, rfl, hK, rfl, rfl, n1, n2, _, _, _⟩ := asksW_nat h1
      obtain ⟨N', K', T, S, hN, hK', rfl, rfl, _, _, _, _, _⟩ := asksW_nat h2
      obtain rfl : N = N' := by omega
      clear hN hK hK'
      have R1 := Lib.hid fun h => meetI_yes (n := N) (f := F) (o := O) (s := S) (t := T) h1 h2 h
      have R2 := Lib.hid fun h => meetI_none (n := N) (f := F) (o := O) (s := S) (t := T) h1 h2 h
      have L1 := wayI_len_yes (n := N) (k := 0) h1
      have L2 := wayI_len_yes (n := N) (k := 0) h2
      have E1 := Lib.hid fun (i : Nat) (hi : i < N) => wayI_nth (n := N) (k := 0) h1 hi
      have E2 := Lib.hid fun (i : Nat) (hi : i < N) => wayI_nth (n := N) (k := 0) h2 hi
      have A1 := Lib.hid (specWayOf_any N 0 O F w)
      have A2 := Lib.hid fun w => specWayOf_any N 0 T S w
      simp only [Int.natCast_zero] at L1 L2 E1 E2
      generalize wayI (N : Int) 0 (O : Int) (F : Int) = xs at L1 E1 A1
      generalize wayI (N : Int) 0 (T : Int) (S : Int) = ys at L2 E2 A2
      have HL1 := Lib.hid L1
      have HL2 := Lib.hid L2
      clear L1 L2
      go_enter Try.func36, Try.ntmps36
      go_wp2_with fail
      refine A1.out.mono ?_
      rw [h1]
      rintro e w1 ⟨a1, c1, rfl, ho, hb⟩
      go_wp2_with fail
      refine (A2.out w1).mono ?_
      rw [h2]
      rintro e w2 ⟨a2, c2, rfl, ho2, hb2⟩
      have I1 := (ho.below hb2).ints
      have I2 := ho2.ints
      have HB := Lib.hid (hb.trans (hb2.mono hb.size))
      rw [HL1.out, HL2.out]
      clear ho ho2 hb hb2
      go_wp2
      go_loopw [15, 38] (fun _ i wr => ∃ k q : Nat, k ≤ N ∧ i = .int .i64 k ∧ (∀ j, j < k → atW N 0 O F j ≠ atW N 0 T S j) ∧ wr = w2.drewN q) (fun _ i _ => N - (intOf i).toNat)
      case atStart => exact ⟨0, 0, Nat.zero_le _, rfl, fun j hj => absurd hj (Nat.not_lt_zero _), rfl⟩
      case round =>
        obtain ⟨k, q, hk, rfl, hno, rfl⟩ := hrel
        have HN := Lib.hid hno
        clear hno
        by_cases hlt : k < N
        · obtain ⟨b1, o1, x, rfl, q1, X⟩ := I1.at (show k < xs.length by rw [HL1.out]; exact hlt)
          obtain ⟨b2, o2, y, rfl, q2, Y⟩ := I2.at (show k < ys.length by rw [HL2.out]; exact hlt)
          have hx := X.out; rw [E1.out k hlt] at hx
          have hy := Y.out; rw [E2.out k hlt] at hy
          have HX := Lib.hid hx; have HY := Lib.hid hy
          clear hx hy
          cases he : (x == y)
          · have hne := Lib.hid (show atW N 0 O F k ≠ atW N 0 T S k from fun e => by have h1 := HX.out; have h2 := HY.out; rw [e] at h1; rw [h1] at h2; subst h2; simp at he)
            go_wp2
            go_quiet (fail)
            go_wp2
            go_roundw
            case rel =>
              exact ⟨k + 1, _, by omega, by go_num, fun j hj => by
                by_cases e : j = k
                · rw [e]; exact hne.out
                · exact HN.out j (by omega), rfl⟩
            case measure => simp [intOf]; omega
          · have heq : atW N 0 O F k = atW N 0 T S k := by
              have h1 := HX.out; have h2 := HY.out
              have : x = y := by simpa using he
              omega
            have hm := meetN_at hlt HN.out heq
            have RR := Lib.hid (R1.out (by rw [hm]; exact hlt))
            rw [hm] at RR
            have RR2 := Lib.hid RR.out
            clear hm heq RR
            go_wp2
            go_quiet (fail)
            go_wp2
            go_ret
            exact ⟨by rw [RR2.out]; rfl, below_drewN (below_drewN HB.out _) _⟩
        · obtain rfl : k = N := by omega
          have hm := meetN_no HN.out
          have RR := Lib.hid (R2.out hm)
          clear hm
          go_wp2
          go_ret
          exact ⟨by rw [RR.out]; rfl, below_drewN HB.out _⟩

set_option maxHeartbeats 2000000 in
set_option maxRecDepth 100000 in
theorem specWholeSteps_any (n : Int) (w : World) :
    Calls Try.prog 30 #[.int .i64 n] w fun e w' => ∃ (a' : Option Addr) (c' : Nat), e = .returned (.tuple #[.slice a' (stepsI n).length c', .bool (inB n 1 16)]) ∧ OwnInts w' w.heap.size a' (stepsI n) ∧ Below w.heap.size w w' := by
  cases h1 : inB n 1 16
  · have B0 := Lib.hid ((Below.refl _ w).alloc (Nat.le_refl _) (.cells #[] 3))
    have R0 := Lib.hid (ownsRow_ints (zs := []) (row_start w))
    have R := Lib.hid (stepsI_no h1)
    go_enter Try.func30, Try.ntmps30
    go_wp2_with (first | (go_at_call 51; refine (l1In_any _ _ _ _).mono ?_; rintro e w' ⟨rfl, rfl⟩; rw [h1]))
    go_ret2
    exact ⟨_, _, by rw [R.out]; rfl, by rw [R.out]; exact R0.out, B0.out⟩
  · have h' := inB_iff.1 h1
    obtain ⟨N, rfl⟩ := Int.eq_ofNat_of_zero_le (show 0 ≤ n by omega)
    have R := Lib.hid (stepsI_yes h1)
    have H1 := Lib.hid h1
    have n1 : 1 ≤ N := by omega
    have n2 : N ≤ 16 := by omega
    clear h'
    obtain ⟨i0, hi, hz0, hz1, hz2⟩ := info_parts Try.info3
    have HI := Lib.hid hi; have HZ0 := Lib.hid hz0; have HZ1 := Lib.hid hz1; have HZ2 := Lib.hid hz2
    clear hi hz0 hz1 hz2
    have S0 := (St.start w).below ((Below.refl _ w).alloc (Nat.le_refl _) (.cells #[] 3)) |>.add (It.row w.heap.size (w.heap.size + 1) (.slice (some ⟨w.heap.size, 0, none⟩) 0 0) []) (by simp [It.row]) ⟨row_start w, fun k e => by cases e; simp⟩
    go_enter Try.func30, Try.ntmps30
    go_wp2_with (first | (go_at_call 51; refine (l1In_any _ _ _ _).mono ?_; rintro e w' ⟨rfl, rfl⟩; rw [h1]))
    clear h1
    go_loopw [4, 5, 12] (fun x _ z wr => ∃ (j : Nat) (v : Value) (xs : List Int) (hi' : Nat), j ≤ N ∧ z = .int .i64 j ∧ x = v ∧ xs = stepsTo N j ∧ w.heap.size < wr.heap.size ∧
      St w wr [It.row w.heap.size hi' v xs]) (fun _ _ z _ => N - (intOf z).toNat)
    case atStart => exact ⟨0, _, [], _, Nat.zero_le _, rfl, rfl, rfl, S0.sz 0 rfl, S0⟩
    case round =>
      obtain ⟨j, v, xs, hi', hj, rfl, rfl, hxs, hz, Sr⟩ := hrel
      have X := Lib.hid hxs
      have hxl : xs.length ≤ 16 := by rw [hxs]; exact Nat.le_trans (stepsTo_len _ _) (by omega)
      clear hxs S0
      by_cases hlt : j < N
      · have W := Lib.hid (wholeB_yes (askW_of n1 n2 (show 0 ≤ 2 by omega) (show j ≤ 16 by omega)))
        have A0 := Lib.hid (specIsWhole_any N 0 j wr)
        simp only [Int.natCast_zero] at W
        cases hd : decide (reachN N 0 j = N)
        · have Y := Lib.hid (stepsTo_no hd)
          go_wp2_with fail
          refine A0.out.mono ?_
          rw [W.out, hd]
          rintro e w1 ⟨rfl, hb⟩
          have S1 := Sr.below hb
          have z1 := hb.size
          clear Sr
          go_wp2
          go_roundw
          case rel => exact ⟨j + 1, _, xs, hi', by omega, by go_num, rfl, by rw [X.out, Y.out], by omega, S1⟩
          case measure => simp [intOf]; omega
        · have Y := Lib.hid (stepsTo_yes hd)
          go_wp2_with fail
          refine A0.out.mono ?_
          rw [W.out, hd]
          rintro e w1 ⟨rfl, hb⟩
          have S1 := Sr.below hb
          have z1 := hb.size
          clear Sr hb
          have hown := S1.rows 0 rfl
          have F5 := fun v => (show Far (It.row w.heap.size hi' v xs) [] from trivial)
          go_wp2_with (first | (at_builtin; refine wpList_append_own _ rfl _ _ 33 rfl w.heap.size 3 i0 (.int .i64 0) 1 8 Try.underlying33 HI.out HZ0.out HZ1.out HZ2.out rfl (by decide) _ _ _ rfl (hown.alloc _) ⟨w1.heap.size, 0, none⟩ 1 1 [.int .i64 j] rfl rfl (cell_one_new _ _ _) (by simp [Value.oneCell']) (by unfold maxLen; omega) (by omega) (by simp; omega) ?_))
          intro v' w5 hown5 hgrow5 _
          obtain ⟨g', cap', rfl⟩ := ownsRow_more hown5
          have S5 := S1.append (F5 _) (Nat.le_refl _) _ hown5 hgrow5
          have z5 : w.heap.size < w5.heap.size := by have := hgrow5.size; simp at this; omega
          clear hown5 hgrow5 hown S1
          go_wp2
          go_roundw
          case rel => exact ⟨j + 1, _, xs ++ [(j : Int)], w5.heap.size, by omega, by go_num, rfl, by rw [X.out, Y.out], z5, S5⟩
          case measure => simp [intOf]; omega
      · obtain ⟨a', c', rfl⟩ := ownsRow_slice (Sr.rows 0 rfl)
        have O2 := Lib.hid (ownsRow_ints (Sr.rows 0 rfl))
        go_wp2
        go_ret2
        have e : j = N := by omega
        have hx := X.out
        rw [e] at hx
        subst hx
        exact ⟨a', c', by rw [R.out]; rfl, by rw [R.out]; exact O2.out, Sr.old⟩

end Go.Proofs.Ytddomanabcmnpaa

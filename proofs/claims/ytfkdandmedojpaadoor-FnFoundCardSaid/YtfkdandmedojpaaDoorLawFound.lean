/-
  The law FnFound: the walk.
-/
import Derived.Test.YtfkdandmedojpaaDoorCame
import Derived.Test.YtfkdandmedojpaaDoorDraw2K
import Derived.Test.YtfkdandmedojpaaDoorHome
import Derived.Test.YtfkdandmedojpaaDoorAway
import Derived.Test.YtfkdandmedojpaaDoorFindI
import Derived.Test.YtfkdandmedojpaaDoorMath
namespace Go.Proofs.YtfkdandmedojpaaDoor
open Go.RowKit

theorem found_cases (T : Tab) (key : Int) : (findOf T key = -1 ∧ visOf T key = -1) ∨
    ∃ v h l : Nat, validB T = true ∧ (0 ≤ key ∧ key ≤ 99) ∧ visOf T key = v ∧ homeOf T key = h ∧ (h < T.zs.length ∧ 1 ≤ v ∧ v ≤ T.zs.length ∧ l < T.zs.length) ∧ ((h : Int) + v - 1).tmod T.zs.length = l ∧
      (∀ k, k < v - 1 → nth T.zs (stepS T h k) ≠ -1 ∧ nth T.zs (stepS T h k) ≠ key) ∧
      ((findOf T key = l ∧ nth T.zs l = key ∧ awayOf T l = (v : Int) - 1) ∨ (findOf T key = -1 ∧ (nth T.zs l = -1 ∨ v = T.zs.length))) := by
  cases ha : (validB T && inB key 0 99)
  · left
    simp [findOf, visOf, ha]
  · right
    obtain ⟨hv, k0, k9⟩ := asked_yes ha
    obtain ⟨⟨l1, l2⟩, _⟩ := valid_facts hv
    have hb := visN_bounds l1 key (homeN T key)
    have hh := homeN_lt hv key
    have hl := lastOf_lt l1 key
    have hc := last_cast hv key
    have he := homeN_eq hv key
    refine ⟨visN T key (homeN T key), homeN T key, lastOf T key, hv, ⟨k0, k9⟩, by simp [visOf, ha], by rw [he]; exact (homeOf_yes hv (inB_true ⟨k0, k9⟩)).symm, ⟨hh, hb.1, hb.2, hl⟩, ?_, fun k hk => stop_no (vis_free hk), ?_⟩
    · rw [Int.tmod_eq_emod_of_nonneg (by omega), he]; exact hc
    · by_cases hf : 0 ≤ findI T key
      · obtain ⟨f1, f2⟩ := find_yes hf
        exact .inl ⟨by rw [findOf, if_pos ha]; exact f1, f2, last_away hv k0 f2⟩
      · obtain ⟨f1, f2⟩ := find_no (Int.not_le.1 hf)
        exact .inr ⟨by rw [findOf, if_pos ha]; exact f1, last_free f2⟩

set_option maxHeartbeats 4000000 in
theorem walkFnFound (w : World) (a : Option Addr) (len cap : Nat) (zs : List Int) (h : IsRow .u8 w a len cap zs) (hL : Laid w) :
    Calls Tryd.prog 3 #[.slice a len cap] w fun e w' => e = .returned (.bool true) ∧ Below w.heap.size w w' := by
  obtain ⟨ys, rfl, hC, S0⟩ := came_of h
  clear h
  by_cases hs : ys.length ≤ 1048576
  · have t1 : decide (1048576 < (ys.length : Int)) = false := by simp; omega
    go_enter Tryd.func3, Tryd.ntmps3
    go_wp2_with fail
    refine (DrawFindKey_any (by exact S0) hC).mono ?_
    rintro e w1 ⟨T, a1, c1, lo, hi, key, rfl, hT, ⟨k1, k2⟩, hlo, S1⟩
    obtain ⟨n1, n2⟩ := hT.len
    have S2 := S1.alloc #[.int .i64 T.t, .int .i64 T.p, .slice a1 T.zs.length c1] 25
    go_wp2_with fail
    refine (FindKey_any T a1 c1 key _ (by omega) (by exact S2.ints 1 rfl) (hL.below S2.old hL.pos)).mono ?_
    rintro e w2 ⟨rfl, hb⟩
    have S3 := S1.alloc1 hb
    clear S1 S2 hb
    obtain ⟨x0, x1, x2, x3, x4, x5, xz⟩ := facts3 (S3.cells 0 rfl)
    go_wp2_with fail
    clear x0 x1 x2 x3 x4 x5 xz
    refine (specFindKey_any T a1 c1 key _ (by omega) (by exact S3.ints 1 rfl)).mono ?_
    rintro e w3 ⟨rfl, hb⟩
    have S4 := S3.below hb
    clear S3 hb
    obtain ⟨x0, x1, x2, x3, x4, x5, xz⟩ := facts3 (S4.cells 0 rfl)
    go_wp2_with fail
    clear x0 x1 x2 x3 x4 x5 xz
    refine (VisitsFor_any T a1 c1 key _ (by omega) (by exact S4.ints 1 rfl)).mono ?_
    rintro e w4 ⟨rfl, hb⟩
    have S5 := S4.below hb
    clear S4 hb
    obtain ⟨x0, x1, x2, x3, x4, x5, xz⟩ := facts3 (S5.cells 0 rfl)
    have hsp := Lib.hid fun W h => specVisitsFor_any T a1 c1 key W (by omega) h
    rcases found_cases T key with ⟨e1, e2⟩ | ⟨v, h, l, hv, ⟨k0, k9⟩, e2, e3, ⟨b1, b2, b3, b4⟩, hm, hfree, hlast⟩
    · rw [e2] at hsp
      rw [e1, e2]
      clear e1 e2
      go_wp2_with fail
      clear x0 x1 x2 x3 x4 x5 xz
      refine (hsp.out _ (by exact S5.ints 1 rfl)).mono ?_
      rintro e w5 ⟨rfl, hb⟩
      have S6 := S5.below hb
      clear S5 hb
      obtain ⟨x0, x1, x2, x3, x4, x5, xz⟩ := facts3 (S6.cells 0 rfl)
      go_wp2_with fail
      clear x0 x1 x2 x3 x4 x5 xz
      refine (hsp.out _ (by exact S6.ints 1 rfl)).mono ?_
      rintro e w6 ⟨rfl, hb⟩
      have S7 := S6.below hb
      go_wp2_with fail
      go_ret
      exact ⟨rfl, S7.old⟩
    · have hho := HomeOf_any T a1 c1 key
      rw [e3] at hho
      have HH := Lib.hid hho
      have HF := Lib.hid hfree
      rw [e2] at hsp ⊢
      clear hho hfree e2 e3
      have d0 : decide ((v : Int) < 0) = false := decide_eq_false (by omega)
      have ln : ((T.zs.length : Int) == 0) = false := beq_eq_false_iff_ne.2 (by omega)
      have ln2 : (T.zs.length == 0) = false := beq_eq_false_iff_ne.2 (by omega)
      have ln3 : ¬ T.zs = [] := by intro e; rw [e] at n1; simp at n1
      have u0 : IntKind.i64.wrap ((v : Int) - 1) = (v : Int) - 1 := IntWalk.i64_in _ (by omega)
      have u1 : IntKind.i64.wrap ((h : Int) + (v : Int)) = (h : Int) + v := IntWalk.i64_in _ (by omega)
      have u2 : IntKind.i64.wrap ((h : Int) + (v : Int) - 1) = (h : Int) + v - 1 := IntWalk.i64_in _ (by omega)
      have dv : decide ((v : Int) ≤ (T.zs.length : Int)) = true := decide_eq_true (by omega)
      have lz : (0 : Int) ≤ (l : Int) := by omega
      have lz' : decide ((0 : Int) ≤ (l : Int)) = true := decide_eq_true lz
      have lm : (l : Int) < (T.zs.length : Int) := by omega
      obtain ⟨b, o, y, rfl, _, Y⟩ := (S5.ints 1 rfl).at b4
      rcases hlast with ⟨e1, e4, e5⟩ | ⟨e1, e4⟩
      · have hy : y = key := Y.out.symm.trans e4
        subst hy
        have haw := AwayOf_any T (some ⟨b, o, none⟩) c1 l
        rw [e5] at haw
        have HA := Lib.hid haw
        rw [e1]
        clear e1 e4 e5 haw
        go_wp2_with fail
        clear x0 x1 x2 x3 x4 x5 xz
        refine (hsp.out _ (by exact S5.ints 1 rfl)).mono ?_
        rintro e w5 ⟨rfl, hb⟩
        have S6 := S5.below hb
        clear S5 hb
        obtain ⟨x0, x1, x2, x3, x4, x5, xz⟩ := facts3 (S6.cells 0 rfl)
        go_wp2_with fail
        clear x0 x1 x2 x3 x4 x5 xz
        refine (HH.out _ (by omega) (by exact S6.ints 1 rfl)).mono ?_
        rintro e w6 ⟨rfl, hb⟩
        have S7 := S6.below hb
        clear S6 hb
        go_wp2_with fail
        go_loopw [11, 12, 80] (fun _ _ i wr => ∃ k : Nat, k ≤ v - 1 ∧ i = .int .i64 k ∧ St w wr [It.box w1.heap.size #[.int .i64 T.t, .int .i64 T.p, .slice (some ⟨b, o, none⟩) T.zs.length c1] 25, It.own lo hi (some ⟨b, o, none⟩) T.zs]) (fun _ _ i _ => v - 1 - (intOf i).toNat)
        case atStart => exact ⟨0, Nat.zero_le _, rfl, S7⟩
        case round =>
          obtain ⟨k, hk, rfl, Sr⟩ := hrel
          clear S7
          obtain ⟨x0, x1, x2, x3, x4, x5, xz⟩ := facts3 (Sr.cells 0 rfl)
          by_cases hlt : k < v - 1
          · obtain ⟨j, hj⟩ : ∃ j, stepS T h k = j := ⟨_, rfl⟩
            have hj1 : j < T.zs.length := by rw [← hj]; exact stepS_lt n1 h k
            obtain ⟨f1, f2⟩ := HF.out k hlt
            rw [hj] at f1 f2
            obtain ⟨b', o', x, e, q, X⟩ := (Sr.ints 1 rfl).at hj1
            cases e
            rw [X.out] at f1 f2
            have dk : decide ((k : Int) < (v : Int) - 1) = true := decide_eq_true (by omega)
            have s1 : IntKind.i64.wrap ((h : Int) + (k : Int)) = (h : Int) + k := IntWalk.i64_in _ (by omega)
            have s3 : ((h : Int) + (k : Int)).tmod (T.zs.length : Int) = (j : Int) := by rw [Int.tmod_eq_emod_of_nonneg (by omega), step_cast, hj]
            have j0 : (0 : Int) ≤ (j : Int) := by omega
            have j1 : (j : Int) < (T.zs.length : Int) := by omega
            have g1 : (x == -1) = false := beq_eq_false_iff_ne.2 f1
            have g2 : (x == y) = false := beq_eq_false_iff_ne.2 f2
            go_wp2
            go_quiet (fail)
            go_wp2
            go_roundw
            case rel => exact ⟨k + 1, by omega, by go_num, Sr.drewN _⟩
            case measure => simp [intOf]; omega
          · obtain rfl : k = v - 1 := by omega
            have dk : decide (((v - 1 : Nat) : Int) < (v : Int) - 1) = false := decide_eq_false (by omega)
            obtain ⟨b', o', y', e, q, Y'⟩ := (Sr.ints 1 rfl).at b4
            cases e
            obtain rfl : y' = y := Y'.out.symm.trans Y.out
            go_wp2_with fail
            refine (HA.out _ (by omega) (by exact Sr.ints 1 rfl)).mono ?_
            rintro e w8 ⟨rfl, hb⟩
            have S8 := Sr.below hb
            clear Sr hb x0 x1 x2 x3 x4 x5 xz
            go_wp2_with fail
            go_ret
            exact ⟨rfl, S8.old⟩
      · rw [e1]
        clear e1
        go_wp2_with fail
        clear x0 x1 x2 x3 x4 x5 xz
        refine (hsp.out _ (by exact S5.ints 1 rfl)).mono ?_
        rintro e w5 ⟨rfl, hb⟩
        have S6 := S5.below hb
        clear S5 hb
        obtain ⟨x0, x1, x2, x3, x4, x5, xz⟩ := facts3 (S6.cells 0 rfl)
        go_wp2_with fail
        clear x0 x1 x2 x3 x4 x5 xz
        refine (HH.out _ (by omega) (by exact S6.ints 1 rfl)).mono ?_
        rintro e w6 ⟨rfl, hb⟩
        have S7 := S6.below hb
        clear S6 hb
        go_wp2_with fail
        go_loopw [11, 12, 80] (fun _ _ i wr => ∃ k : Nat, k ≤ v - 1 ∧ i = .int .i64 k ∧ St w wr [It.box w1.heap.size #[.int .i64 T.t, .int .i64 T.p, .slice (some ⟨b, o, none⟩) T.zs.length c1] 25, It.own lo hi (some ⟨b, o, none⟩) T.zs]) (fun _ _ i _ => v - 1 - (intOf i).toNat)
        case atStart => exact ⟨0, Nat.zero_le _, rfl, S7⟩
        case round =>
          obtain ⟨k, hk, rfl, Sr⟩ := hrel
          clear S7
          obtain ⟨x0, x1, x2, x3, x4, x5, xz⟩ := facts3 (Sr.cells 0 rfl)
          by_cases hlt : k < v - 1
          · obtain ⟨j, hj⟩ : ∃ j, stepS T h k = j := ⟨_, rfl⟩
            have hj1 : j < T.zs.length := by rw [← hj]; exact stepS_lt n1 h k
            obtain ⟨f1, f2⟩ := HF.out k hlt
            rw [hj] at f1 f2
            obtain ⟨b', o', x, e, q, X⟩ := (Sr.ints 1 rfl).at hj1
            cases e
            rw [X.out] at f1 f2
            have dk : decide ((k : Int) < (v : Int) - 1) = true := decide_eq_true (by omega)
            have s1 : IntKind.i64.wrap ((h : Int) + (k : Int)) = (h : Int) + k := IntWalk.i64_in _ (by omega)
            have s3 : ((h : Int) + (k : Int)).tmod (T.zs.length : Int) = (j : Int) := by rw [Int.tmod_eq_emod_of_nonneg (by omega), step_cast, hj]
            have j0 : (0 : Int) ≤ (j : Int) := by omega
            have j1 : (j : Int) < (T.zs.length : Int) := by omega
            have g1 : (x == -1) = false := beq_eq_false_iff_ne.2 f1
            have g2 : (x == key) = false := beq_eq_false_iff_ne.2 f2
            go_wp2
            go_quiet (fail)
            go_wp2
            go_roundw
            case rel => exact ⟨k + 1, by omega, by go_num, Sr.drewN _⟩
            case measure => simp [intOf]; omega
          · obtain rfl : k = v - 1 := by omega
            have dk : decide (((v - 1 : Nat) : Int) < (v : Int) - 1) = false := decide_eq_false (by omega)
            obtain ⟨b', o', y', e, q, Y'⟩ := (Sr.ints 1 rfl).at b4
            cases e
            obtain rfl : y' = y := Y'.out.symm.trans Y.out
            by_cases hy : y' = -1
            · have dy : (y' == -1) = true := beq_iff_eq.2 hy
              go_wp2_with fail
              go_ret
              exact ⟨rfl, Sr.old⟩
            · have dy : (y' == -1) = false := beq_eq_false_iff_ne.2 hy
              have hvn : v = T.zs.length := by
                rcases e4 with e4 | e4
                · rw [Y.out] at e4; exact absurd e4 hy
                · exact e4
              subst hvn
              go_wp2_with fail
              go_ret
              exact ⟨rfl, Sr.old⟩
  · have t1 : decide (1048576 < (ys.length : Int)) = true := by simp; omega
    go_enter Tryd.func3, Tryd.ntmps3
    go_wp2_with fail
    go_ret
    exact ⟨rfl, S0.old⟩

end Go.Proofs.YtfkdandmedojpaaDoor

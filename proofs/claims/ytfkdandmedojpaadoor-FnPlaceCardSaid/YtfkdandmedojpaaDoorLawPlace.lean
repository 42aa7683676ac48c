/-
  The law FnPlace: the walk.
-/
import Derived.Test.YtfkdandmedojpaaDoorCame
import Derived.Test.YtfkdandmedojpaaDoorDraw2K
import Derived.Test.YtfkdandmedojpaaDoorHome
import Derived.Test.YtfkdandmedojpaaDoorCount
import Derived.Test.YtfkdandmedojpaaDoorFindI
import Derived.Test.YtfkdandmedojpaaDoorMath
namespace Go.Proofs.YtfkdandmedojpaaDoor
open Go.RowKit

theorem place_back {h k n j : Nat} (hh : h < n) (hj : j < n) (hk : (h + j) % n = k) : ((k : Int) - h + n).tmod n = j := by
  have hk2 : k < n := by rw [← hk]; exact Nat.mod_lt _ (by omega)
  rw [Int.tmod_eq_emod_of_nonneg (by omega), Int.add_emod_right, wsub (by omega) (by omega) (by omega) (by omega)]
  rw [nadd hh (by omega)] at hk
  split at hk <;> split <;> omega

theorem place_cases (T : Tab) (key : Int) :
    (placeI T key = -1 ∧ ((∃ l : Nat, findOf T key = l) ∨ (findOf T key = -1 ∧ visOf T key = -1) ∨ (findOf T key = -1 ∧ (∃ v : Nat, visOf T key = v) ∧ countT T = 0 ∧ countF T = 0 ∧ countK T = T.zs.length))) ∨
    ∃ k h v j : Nat, placeI T key = k ∧ findOf T key = -1 ∧ homeOf T key = h ∧ visOf T key = v ∧ (j < v ∧ v ≤ T.zs.length ∧ h < T.zs.length ∧ k < T.zs.length ∧ T.zs.length ≤ 16) ∧ ((k : Int) - h + T.zs.length).tmod T.zs.length = j ∧ nth T.zs k < 0 ∧ ∀ i, i < j → 0 ≤ nth T.zs (stepS T h i) := by
  cases ha : (validB T && inB key 0 99)
  · left
    exact ⟨placeI_no (.inl ha), .inr (.inl (by simp [findOf, visOf, ha]))⟩
  · obtain ⟨hv, k0, k9⟩ := asked_yes ha
    obtain ⟨⟨l1, l2⟩, _⟩ := valid_facts hv
    have hb := visN_bounds l1 key (homeN T key)
    have hh := homeN_lt hv key
    have he := homeN_eq hv key
    have ev : visOf T key = (visN T key (homeN T key) : Int) := by simp [visOf, ha]
    by_cases hf : 0 ≤ findI T key
    · left
      exact ⟨placeI_no (.inr hf), .inl ⟨_, by rw [findOf, if_pos ha]; exact (find_yes hf).1⟩⟩
    · have f1 : findOf T key = -1 := by rw [findOf, if_pos ha]; exact (find_no (Int.not_le.1 hf)).1
      by_cases hp : 0 ≤ placeI T key
      · right
        obtain ⟨j, h1, h2, h3, h4⟩ := place_yes hp
        exact ⟨_, homeN T key, visN T key (homeN T key), j, h2, f1, by rw [he]; exact (homeOf_yes hv (inB_true ⟨k0, k9⟩)).symm, ev, ⟨h1, hb.2, hh, stepS_lt l1 _ _, l2⟩, place_back hh (by omega) rfl, h3, h4⟩
      · left
        have hn := place_no hv ⟨k0, k9⟩ (Int.not_le.1 hf) (Int.not_le.1 hp)
        exact ⟨placeI_low (Int.not_le.1 hp), .inr (.inr ⟨f1, ⟨_, ev⟩, counts_full hv hn⟩)⟩

theorem own_cell' {w : World} {base b o : Nat} {zs : List Int} (h : OwnInts w base (some ⟨b, o, none⟩) zs) {k : Nat} {x : Int} (hk : k < zs.length) (hx : nth zs k = x) : w.cell? ⟨b, o + k, none⟩ = some (.int .i64 x) := by
  subst hx
  exact (own_at h hk).1

set_option maxHeartbeats 4000000 in
theorem walkFnPlace (w : World) (a : Option Addr) (len cap : Nat) (zs : List Int) (h : IsRow .u8 w a len cap zs) (hL : Laid w) :
    Calls Tryd.prog 4 #[.slice a len cap] w fun e w' => e = .returned (.bool true) ∧ Below w.heap.size w w' := by
  obtain ⟨ys, rfl, hC, S0⟩ := came_of h
  clear h
  by_cases hs : ys.length ≤ 1048576
  · have t1 : decide (1048576 < (ys.length : Int)) = false := by simp; omega
    go_enter Tryd.func4, Tryd.ntmps4
    go_wp2_with fail
    refine (DrawPlaceFor_any (by exact S0) hC).mono ?_
    rintro e w1 ⟨T, a1, c1, lo, hi, key, rfl, hT, ⟨k1, k2⟩, hlo, S1⟩
    obtain ⟨n1, n2⟩ := hT.len
    have S2 := S1.alloc #[.int .i64 T.t, .int .i64 T.p, .slice a1 T.zs.length c1] 25
    go_wp2_with fail
    refine (PlaceFor_any T a1 c1 key _ (by omega) (by exact S2.ints 1 rfl)).mono ?_
    rintro e w2 ⟨rfl, hb⟩
    have S3 := S1.alloc1 hb
    clear S1 S2 hb
    obtain ⟨x0, x1, x2, x3, x4, x5, xz⟩ := facts3 (S3.cells 0 rfl)
    go_wp2_with fail
    clear x0 x1 x2 x3 x4 x5 xz
    refine (specPlaceFor_any T a1 c1 key _ (by omega) (by exact S3.ints 1 rfl)).mono ?_
    rintro e w3 ⟨rfl, hb⟩
    have S4 := S3.below hb
    clear S3 hb
    obtain ⟨x0, x1, x2, x3, x4, x5, xz⟩ := facts3 (S4.cells 0 rfl)
    go_wp2_with fail
    clear x0 x1 x2 x3 x4 x5 xz
    refine (FindKey_any T a1 c1 key _ (by omega) (by exact S4.ints 1 rfl) (hL.below S4.old hL.pos)).mono ?_
    rintro e w4 ⟨rfl, hb⟩
    have S5 := S4.below hb
    clear S4 hb
    obtain ⟨x0, x1, x2, x3, x4, x5, xz⟩ := facts3 (S5.cells 0 rfl)
    have hvi := VisitsFor_any T a1 c1 key
    rcases place_cases T key with ⟨e1, hcase⟩ | ⟨k, h, v, j, e1, e2, e3, e4, ⟨b1, b2, b3, b4, b5⟩, hm, hlow, hfree⟩
    · rw [e1]
      clear e1
      have hcs := CountSlots_any T a1 c1
      rcases hcase with ⟨l, e2⟩ | ⟨e2, e4⟩ | ⟨e2, ⟨v, e4⟩, c1', c2', c3'⟩
      · have d : decide ((0 : Int) ≤ (l : Int)) = true := decide_eq_true (by omega)
        have HC := Lib.hid hcs
        rw [e2]
        clear e2 hcs hvi
        go_wp2_with fail
        clear x0 x1 x2 x3 x4 x5 xz
        refine (HC.out _ (by omega) (by exact S5.ints 1 rfl)).mono ?_
        rintro e w5 ⟨rfl, hb⟩
        have S6 := S5.below hb
        go_wp2_with fail
        go_ret
        exact ⟨rfl, S6.old⟩
      · rw [e4] at hvi
        have HV := Lib.hid hvi
        have HC := Lib.hid hcs
        rw [e2]
        clear e2 e4 hcs hvi
        go_wp2_with fail
        clear x0 x1 x2 x3 x4 x5 xz
        refine (HC.out _ (by omega) (by exact S5.ints 1 rfl)).mono ?_
        rintro e w5 ⟨rfl, hb⟩
        have S6 := S5.below hb
        clear S5 hb
        obtain ⟨x0, x1, x2, x3, x4, x5, xz⟩ := facts3 (S6.cells 0 rfl)
        go_wp2_with fail
        clear x0 x1 x2 x3 x4 x5 xz
        refine (HV.out _ (by omega) (by exact S6.ints 1 rfl)).mono ?_
        rintro e w6 ⟨rfl, hb⟩
        have S7 := S6.below hb
        go_wp2_with fail
        go_ret
        exact ⟨rfl, S7.old⟩
      · rw [e4] at hvi
        rw [c1', c2', c3'] at hcs
        have HV := Lib.hid hvi
        have HC := Lib.hid hcs
        have dv : decide ((v : Int) < 0) = false := decide_eq_false (by omega)
        rw [e2]
        clear e2 e4 hcs hvi c1' c2' c3'
        go_wp2_with fail
        clear x0 x1 x2 x3 x4 x5 xz
        refine (HC.out _ (by omega) (by exact S5.ints 1 rfl)).mono ?_
        rintro e w5 ⟨rfl, hb⟩
        have S6 := S5.below hb
        clear S5 hb
        obtain ⟨x0, x1, x2, x3, x4, x5, xz⟩ := facts3 (S6.cells 0 rfl)
        go_wp2_with fail
        clear x0 x1 x2 x3 x4 x5 xz
        refine (HV.out _ (by omega) (by exact S6.ints 1 rfl)).mono ?_
        rintro e w6 ⟨rfl, hb⟩
        have S7 := S6.below hb
        clear S6 hb
        obtain ⟨x0, x1, x2, x3, x4, x5, xz⟩ := facts3 (S7.cells 0 rfl)
        go_wp2_with fail
        go_ret
        exact ⟨rfl, S7.old⟩
    · rw [e4] at hvi
      have hho := HomeOf_any T a1 c1 key
      rw [e3] at hho
      have HV := Lib.hid hvi
      have HH := Lib.hid hho
      have HF := Lib.hid hfree
      rw [e1, e2]
      clear e1 e2 e3 e4 hvi hho hfree
      have d : decide ((0 : Int) ≤ (k : Int)) = true := decide_eq_true (by omega)
      have ln : ((T.zs.length : Int) == 0) = false := beq_eq_false_iff_ne.2 (by omega)
      have ln2 : (T.zs.length == 0) = false := beq_eq_false_iff_ne.2 (by omega)
      have ln3 : ¬ T.zs = [] := by intro e; rw [e] at n1; simp at n1
      have u0 : IntKind.i64.wrap ((k : Int) - (h : Int)) = (k : Int) - h := IntWalk.i64_in _ (by omega)
      have u1 : IntKind.i64.wrap ((k : Int) - (h : Int) + (T.zs.length : Int)) = (k : Int) - h + T.zs.length := IntWalk.i64_in _ (by omega)
      obtain ⟨b, o, y, rfl, _, Y⟩ := (S5.ints 1 rfl).at b4
      rw [Y.out] at hlow
      have dl : decide (y < 0) = true := decide_eq_true hlow
      have dv : decide ((j : Int) < (v : Int)) = true := decide_eq_true (by omega)
      have k0 : (0 : Int) ≤ (k : Int) := by omega
      have k1 : (k : Int) < (T.zs.length : Int) := by omega
      go_wp2_with fail
      go_region_held3 (fun w' => w'.cell? ⟨w1.heap.size, 0, none⟩ = some (.int .i64 T.t) ∧ w'.cell? ⟨w1.heap.size, 1, none⟩ = some (.int .i64 T.p) ∧ w'.cell? ⟨w1.heap.size, 2, none⟩ = some (.slice (some ⟨b, o, none⟩) T.zs.length c1))
        (first
          | exact ⟨x0, x1, x2⟩
          | exact S6.three 0 rfl)
        (first
          | (go_at_call 11; refine (HH.out _ (by omega) (by exact S5.drew.ints 1 rfl)).mono ?_; rintro e w5 ⟨rfl, hb⟩; have S6 := S5.drew.below hb; clear hb))
      clear x0 x1 x2 x3 x4 x5 xz
      go_wp2_with fail
      go_loopw [15, 102] (fun _ i wr => ∃ m : Nat, m ≤ j ∧ i = .int .i64 m ∧ St w wr [It.box w1.heap.size #[.int .i64 T.t, .int .i64 T.p, .slice (some ⟨b, o, none⟩) T.zs.length c1] 25, It.own lo hi (some ⟨b, o, none⟩) T.zs]) (fun _ i _ => j - (intOf i).toNat)
      case atStart => exact ⟨0, Nat.zero_le _, rfl, S6⟩
      case round =>
        obtain ⟨m, hm', rfl, Sr⟩ := hrel
        clear S6
        obtain ⟨x0, x1, x2, x3, x4, x5, xz⟩ := facts3 (Sr.cells 0 rfl)
        by_cases hlt : m < j
        · obtain ⟨i, hi'⟩ : ∃ i, stepS T h m = i := ⟨_, rfl⟩
          have hi1 : i < T.zs.length := by rw [← hi']; exact stepS_lt n1 h m
          have f1 := HF.out m hlt
          rw [hi'] at f1
          obtain ⟨b', o', x, e, q, X⟩ := (Sr.ints 1 rfl).at hi1
          cases e
          rw [X.out] at f1
          have dk : decide ((m : Int) < (j : Int)) = true := decide_eq_true (by omega)
          have s1 : IntKind.i64.wrap ((h : Int) + (m : Int)) = (h : Int) + m := IntWalk.i64_in _ (by omega)
          have s3 : ((h : Int) + (m : Int)).tmod (T.zs.length : Int) = (i : Int) := by rw [Int.tmod_eq_emod_of_nonneg (by omega), step_cast, hi']
          have j0 : (0 : Int) ≤ (i : Int) := by omega
          have j1 : (i : Int) < (T.zs.length : Int) := by omega
          have g1 : decide (x < 0) = false := decide_eq_false (by omega)
          go_wp2_with fail
          go_region_held3 (fun w' => w'.cell? ⟨w1.heap.size, 0, none⟩ = some (.int .i64 T.t) ∧ w'.cell? ⟨w1.heap.size, 1, none⟩ = some (.int .i64 T.p) ∧ w'.cell? ⟨w1.heap.size, 2, none⟩ = some (.slice (some ⟨b, o, none⟩) T.zs.length c1) ∧ w'.cell? ⟨b, o + i, none⟩ = some (.int .i64 x))
            (first
              | exact ⟨x0, x1, x2, q⟩
              | exact ⟨(S7.three 0 rfl).1, (S7.three 0 rfl).2.1, (S7.three 0 rfl).2.2, Q7⟩)
            (first
              | (go_at_call 11; refine (HH.out _ (by omega) (by exact Sr.drew.ints 1 rfl)).mono ?_; rintro e w7 ⟨rfl, hb⟩; have S7 := Sr.drew.below hb; have Q7 := own_cell' (S7.owns 1 rfl) hi1 X.out; clear hb))
          go_wp2
          go_roundw
          case rel => exact ⟨m + 1, by omega, by go_num, S7⟩
          case measure => simp [intOf]; omega
        · obtain rfl : m = j := by omega
          obtain ⟨b', o', y', e, q, Y'⟩ := (Sr.ints 1 rfl).at b4
          cases e
          obtain rfl : y' = y := Y'.out.symm.trans Y.out
          go_wp2_with fail
          refine (HV.out _ (by omega) (by exact Sr.ints 1 rfl)).mono ?_
          rintro e w8 ⟨rfl, hb⟩
          have S8 := Sr.below hb
          go_wp2_with fail
          go_ret
          exact ⟨rfl, S8.old⟩
  · have t1 : decide (1048576 < (ys.length : Int)) = true := by simp; omega
    go_enter Tryd.func4, Tryd.ntmps4
    go_wp2_with fail
    go_ret
    exact ⟨rfl, S0.old⟩

end Go.Proofs.YtfkdandmedojpaaDoor

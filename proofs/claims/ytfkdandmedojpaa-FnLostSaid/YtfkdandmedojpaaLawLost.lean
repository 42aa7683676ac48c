/-
  The law FnLost: the walk.
-/
import Derived.Test.YtfkdandmedojpaaCame
import Derived.Test.YtfkdandmedojpaaDraw2T
import Derived.Test.YtfkdandmedojpaaHome
import Derived.Test.YtfkdandmedojpaaAway
import Derived.Test.YtfkdandmedojpaaLostI
import Derived.Test.YtfkdandmedojpaaOt
import Derived.Test.YtfkdandmedojpaaMath
namespace Go.Proofs.Ytfkdandmedojpaa
open Go.RowKit

/-- Whether one of the first n slots from h on is free. -/
def freeTo (T : Tab) (h n : Nat) : Bool := (List.range n).any fun j => nth T.zs (stepS T h j) == -1
theorem freeTo_succ (T : Tab) (h n : Nat) : freeTo T h (n + 1) = (freeTo T h n || nth T.zs (stepS T h n) == -1) := by
  simp [freeTo, List.range_succ, List.any_append]
theorem lost_free {T : Tab} (hv : validB T = true) {i : Nat} (hi : i < T.zs.length) {x : Int} (hx : nth T.zs i = x) (h0 : 0 ≤ x) :
    ∃ h d : Nat, homeOf T x = h ∧ awayOf T i = d ∧ d < T.zs.length ∧ h < T.zs.length ∧ freeTo T h d = decide (x ∈ lostOf T) := by
  obtain ⟨d, e1, hd, e2, hf⟩ := lost_slot hv hi hx h0
  have h9 : x ≤ 99 := by have := (valid_slot hv hi).2; omega
  have hm : x ∈ T.zs := by
    rw [← hx, nth, List.getElem?_eq_getElem hi]
    exact List.getElem_mem hi
  refine ⟨homeN T x, d, by rw [homeN_eq hv]; exact (homeOf_yes hv (inB_true ⟨h0, h9⟩)).symm, e1, hd, homeN_lt hv x, ?_⟩
  rw [Bool.eq_iff_iff, decide_eq_true_eq, mem_lost hv h0 h9 hm]
  unfold freeTo
  rw [List.any_eq_true]
  constructor
  · rintro ⟨j, hj, e⟩
    refine Int.not_le.1 fun h => ?_
    exact hf.1 h j (List.mem_range.1 hj) (by simpa using e)
  · intro h
    refine Classical.byContradiction fun hn => ?_
    have := hf.2 fun j hj e => hn ⟨j, List.mem_range.2 hj, by simpa using e⟩
    omega

theorem lost_cell {w : World} {base b o : Nat} {zs : List Int} (h : OwnInts w base (some ⟨b, o, none⟩) zs) {k : Nat} {x : Int} (hk : k < zs.length) (hx : nth zs k = x) : w.cell? ⟨b, o + k, none⟩ = some (.int .i64 x) := by
  subst hx
  exact (own_at h hk).1

set_option maxHeartbeats 4000000 in
theorem walkFnLost (w : World) (a : Option Addr) (len cap : Nat) (zs : List Int) (h : IsRow .u8 w a len cap zs) (a' : Option Addr) (len' cap' : Nat) (zs' : List Int) (h' : IsRow .u8 w a' len' cap' zs') :
    Calls Try.prog 3 #[.slice a len cap, .slice a' len' cap'] w fun e w' => e = .returned (.bool true) ∧ Below w.heap.size w w' := by
  obtain ⟨ys, rfl, hC, S0⟩ := came_of h
  obtain ⟨ys', rfl, hC', S0'⟩ := came_of h'
  have SS := S0'.add (It.bytes w.heap.size a ys) (Nat.le_refl _) (S0.get 0 rfl)
  clear h h' S0'
  by_cases hs : ys.length ≤ 1048576
  · have t1 : decide (1048576 < (ys.length : Int)) = false := by simp; omega
    by_cases hs' : ys'.length ≤ 1048576
    · have t2 : decide (1048576 < (ys'.length : Int)) = false := by simp; omega
      go_enter Try.func3, Try.ntmps3
      go_wp2_with fail
      refine (DrawLostKeys_any (by exact SS) hC).mono ?_
      rintro e w1 ⟨T, a1, c1, lo, hi, rfl, hT, hlo, S1⟩
      obtain ⟨n1, n2⟩ := hT.len
      have hll := lostOf_len T
      have S2 := S1.alloc #[.int .i64 T.t, .int .i64 T.p, .slice a1 T.zs.length c1] 25
      go_wp2_with fail
      refine (LostKeys_any T a1 c1 _ (by omega) (by exact S2.ints 1 rfl)).mono ?_
      rintro e w2 ⟨a2, c2, rfl, ho, hb⟩
      have S3 : ∃ l2 h2, St w w2 [It.own l2 h2 a2 (lostOf T), It.box w1.heap.size #[.int .i64 T.t, .int .i64 T.p, .slice a1 T.zs.length c1] 25, It.own lo hi a1 T.zs, It.bytes w.heap.size a' ys'] := ⟨_, _, (S2.below hb).own ho⟩
      obtain ⟨l2, h2, S3⟩ := S3
      clear S1 S2 ho hb
      obtain ⟨x0, x1, x2, x3, x4, x5, xz⟩ := facts3 (S3.cells 1 rfl)
      go_wp2_with fail
      clear x0 x1 x2 x3 x4 x5 xz
      refine (specLostKeys_any T a1 c1 _ (by omega) (by exact S3.ints 2 rfl)).mono ?_
      rintro e w3 ⟨a3, c3, rfl, ho, hb⟩
      have S4 : ∃ l3 h3, St w w3 [It.bytes w.heap.size a' ys', It.own l3 h3 a3 (lostOf T), It.own l2 h2 a2 (lostOf T), It.box w1.heap.size #[.int .i64 T.t, .int .i64 T.p, .slice a1 T.zs.length c1] 25, It.own lo hi a1 T.zs] := ⟨_, _, ((S3.below hb).own ho).turn fun i hi => by
        simp only [List.mem_cons] at hi ⊢
        rcases hi with h | h | h | h | h | h
        · exact .inr (.inr (.inr (.inr (.inl h))))
        · exact .inl h
        · exact .inr (.inl h)
        · exact .inr (.inr (.inl h))
        · exact .inr (.inr (.inr (.inl h)))
        · cases h⟩
      obtain ⟨l3, h3, S4⟩ := S4
      clear S3 ho hb
      go_wp2_with fail
      refine (DrawIsSound_any (by exact S4) hC').mono ?_
      rintro e w4 ⟨X, a4, c4, lo4, hi4, rfl, hX, hlo4, S5⟩
      obtain ⟨m1, m2⟩ := hX.len
      clear S4
      have S6 := S5.alloc #[.int .i64 X.t, .int .i64 X.p, .slice a4 X.zs.length c4] 25
      clear S5
      obtain ⟨x0, x1, x2, x3, x4, x5, xz⟩ := facts3 (S6.cells 0 rfl)
      obtain ⟨y0, y1, y2, y3, y4, y5, yz⟩ := facts3 (S6.cells 4 rfl)
      have hso := IsSound_any T a1 c1
      cases hv : validB T
      · rw [show soundB T = false from soundB_no hv] at hso
        have HSO := Lib.hid hso
        clear hso
        go_wp2_with fail
        go_region_held3 (fun w' => w'.cell? ⟨w4.heap.size, 0, none⟩ = some (.int .i64 X.t) ∧ w'.cell? ⟨w4.heap.size, 1, none⟩ = some (.int .i64 X.p) ∧ w'.cell? ⟨w4.heap.size, 2, none⟩ = some (.slice a4 X.zs.length c4) ∧
            w'.cell? ⟨w1.heap.size, 0, none⟩ = some (.int .i64 T.t) ∧ w'.cell? ⟨w1.heap.size, 1, none⟩ = some (.int .i64 T.p) ∧ w'.cell? ⟨w1.heap.size, 2, none⟩ = some (.slice a1 T.zs.length c1))
          (first
            | exact ⟨x0, x1, x2, y0, y1, y2⟩
            | exact S7.six 0 4 rfl rfl
            | exact S8.six 0 4 rfl rfl
            | exact S9.six 0 4 rfl rfl)
          (first
            | (go_at_call 12; refine (otSame_same (lostOf T) a2 a3 c2 c3 _ (by omega) (by exact S6.drew.ints 3 rfl) (by exact S6.drew.ints 2 rfl)).mono ?_; rintro e w5 ⟨rfl, hb⟩; have S7 := S6.drew.below hb; clear hb)
            | (go_at_call 13; refine (IsSound_any X a4 c4 _ (by omega) (by exact S7.ints 1 rfl)).mono ?_; rintro e w6 ⟨rfl, hb⟩; have S8 := S7.below hb; clear hb)
            | (go_at_call 14; refine (specIsSound_any X a4 c4 _ (by omega) (by exact S8.ints 1 rfl)).mono ?_; rintro e w7 ⟨rfl, hb⟩; have S9 := S8.below hb; clear hb))
        clear x0 x1 x2 x3 x4 x5 xz y0 y1 y2 y3 y4 y5 yz S6 S7 S8
        obtain ⟨x0, x1, x2, x3, x4, x5, xz⟩ := facts3 (S9.cells 0 rfl)
        obtain ⟨y0, y1, y2, y3, y4, y5, yz⟩ := facts3 (S9.cells 4 rfl)
        go_wp2_with fail
        go_region_held3 (fun w' => w'.cell? ⟨w4.heap.size, 0, none⟩ = some (.int .i64 X.t) ∧ w'.cell? ⟨w4.heap.size, 1, none⟩ = some (.int .i64 X.p) ∧ w'.cell? ⟨w4.heap.size, 2, none⟩ = some (.slice a4 X.zs.length c4) ∧
            w'.cell? ⟨w1.heap.size, 0, none⟩ = some (.int .i64 T.t) ∧ w'.cell? ⟨w1.heap.size, 1, none⟩ = some (.int .i64 T.p) ∧ w'.cell? ⟨w1.heap.size, 2, none⟩ = some (.slice a1 T.zs.length c1))
          (first
            | exact ⟨x0, x1, x2, y0, y1, y2⟩
            | exact S10.six 0 4 rfl rfl
            | exact S11.six 0 4 rfl rfl
            | exact S12.six 0 4 rfl rfl
            | exact S13.six 0 4 rfl rfl)
          (first
            | (go_at_call 12; refine (otSame_same (lostOf T) a2 a3 c2 c3 _ (by omega) (by exact S9.drew.ints 3 rfl) (by exact S9.drew.ints 2 rfl)).mono ?_; rintro e w8 ⟨rfl, hb⟩; have S10 := S9.drew.below hb; clear hb)
            | ((with_reducible refine (IsSound_any X a4 c4 _ (by omega) (by exact S10.ints 1 rfl)).mono ?_); rintro e w9 ⟨rfl, hb⟩; have S11 := S10.below hb; clear hb)
            | (go_at_call 14; refine (specIsSound_any X a4 c4 _ (by omega) (by exact S11.ints 1 rfl)).mono ?_; rintro e w10 ⟨rfl, hb⟩; have S12 := S11.below hb; clear hb)
            | ((with_reducible refine (HSO.out _ (by omega) (by exact S12.ints 5 rfl)).mono ?_); rintro e w11 ⟨rfl, hb⟩; have S13 := S12.below hb; clear hb))
        go_wp2
        go_ret
        exact ⟨rfl, S13.old⟩
      · have hsy := soundB_yes hv
        rw [hsy] at hso
        have HSO := Lib.hid hso
        have HV := Lib.hid hv
        have HLF := Lib.hid fun (i : Nat) (hi : i < T.zs.length) (x : Int) (hx : nth T.zs i = x) (h0 : 0 ≤ x) => lost_free hv hi hx h0
        clear hso hsy hv
        go_wp2_with fail
        go_region_held3 (fun w' => w'.cell? ⟨w4.heap.size, 0, none⟩ = some (.int .i64 X.t) ∧ w'.cell? ⟨w4.heap.size, 1, none⟩ = some (.int .i64 X.p) ∧ w'.cell? ⟨w4.heap.size, 2, none⟩ = some (.slice a4 X.zs.length c4) ∧
            w'.cell? ⟨w1.heap.size, 0, none⟩ = some (.int .i64 T.t) ∧ w'.cell? ⟨w1.heap.size, 1, none⟩ = some (.int .i64 T.p) ∧ w'.cell? ⟨w1.heap.size, 2, none⟩ = some (.slice a1 T.zs.length c1))
          (first
            | exact ⟨x0, x1, x2, y0, y1, y2⟩
            | exact S7.six 0 4 rfl rfl
            | exact S8.six 0 4 rfl rfl
            | exact S9.six 0 4 rfl rfl)
          (first
            | (go_at_call 12; refine (otSame_same (lostOf T) a2 a3 c2 c3 _ (by omega) (by exact S6.drew.ints 3 rfl) (by exact S6.drew.ints 2 rfl)).mono ?_; rintro e w5 ⟨rfl, hb⟩; have S7 := S6.drew.below hb; clear hb)
            | (go_at_call 13; refine (IsSound_any X a4 c4 _ (by omega) (by exact S7.ints 1 rfl)).mono ?_; rintro e w6 ⟨rfl, hb⟩; have S8 := S7.below hb; clear hb)
            | (go_at_call 14; refine (specIsSound_any X a4 c4 _ (by omega) (by exact S8.ints 1 rfl)).mono ?_; rintro e w7 ⟨rfl, hb⟩; have S9 := S8.below hb; clear hb))
        clear x0 x1 x2 x3 x4 x5 xz y0 y1 y2 y3 y4 y5 yz S6 S7 S8
        have S10 := S9.turn (l' := [It.own l2 h2 a2 (lostOf T), It.box w1.heap.size #[.int .i64 T.t, .int .i64 T.p, .slice a1 T.zs.length c1] 25, It.own lo hi a1 T.zs]) fun i hi => by
          simp only [List.mem_cons] at hi ⊢
          rcases hi with h | h | h | h
          · exact .inr (.inr (.inr (.inl h)))
          · exact .inr (.inr (.inr (.inr (.inl h))))
          · exact .inr (.inr (.inr (.inr (.inr (.inl h)))))
          · cases h
        clear S9
        have ln : ((T.zs.length : Int) == 0) = false := beq_eq_false_iff_ne.2 (by omega)
        have ln2 : (T.zs.length == 0) = false := beq_eq_false_iff_ne.2 (by omega)
        have ln3 : ¬ T.zs = [] := by intro e; rw [e] at n1; simp at n1
        obtain ⟨y0, y1, y2, y3, y4, y5, yz⟩ := facts3 (S10.cells 1 rfl)
        generalize lostOf T = xs at *
        go_wp2_with fail
        clear y0 y1 y2 y3 y4 y5 yz
        go_loopw [11, 12, 13, 14, 80, 89, 90] (fun _ _ _ _ i _ _ wr => ∃ k : Nat, k ≤ T.zs.length ∧ i = .int .i64 k ∧ St w wr [It.own l2 h2 a2 xs, It.box w1.heap.size #[.int .i64 T.t, .int .i64 T.p, .slice a1 T.zs.length c1] 25, It.own lo hi a1 T.zs]) (fun _ _ _ _ i _ _ _ => T.zs.length - (intOf i).toNat)
        case atStart => exact ⟨0, Nat.zero_le _, rfl, S10⟩
        case round =>
          obtain ⟨k, hk, rfl, Sr⟩ := hrel
          clear S10
          obtain ⟨y0, y1, y2, y3, y4, y5, yz⟩ := facts3 (Sr.cells 1 rfl)
          by_cases hlt : k < T.zs.length
          · obtain ⟨b, o, x, rfl, q, XX⟩ := (Sr.ints 2 rfl).at hlt
            by_cases hx0 : x < 0
            · have g0 : decide (x < 0) = true := decide_eq_true hx0
              go_wp2
              go_roundw
              case rel => exact ⟨k + 1, by omega, by go_num, Sr⟩
              case measure => simp [intOf]; omega
            · have g0 : decide (x < 0) = false := decide_eq_false hx0
              obtain ⟨h, d, e1, e2, hd, hh, e3⟩ := HLF.out k hlt x XX.out (by omega)
              have haw := AwayOf_any T (some ⟨b, o, none⟩) c1 k
              have hho := HomeOf_any T (some ⟨b, o, none⟩) c1 x
              rw [e2] at haw
              rw [e1] at hho
              have HA := Lib.hid haw
              have HH := Lib.hid hho
              have E3 := Lib.hid e3
              clear haw hho e1 e2 e3
              go_wp2_with fail
              refine (HA.out _ (by omega) (by exact Sr.ints 2 rfl)).mono ?_
              rintro e w8 ⟨rfl, hb⟩
              have S11 := Sr.below hb
              clear Sr hb y0 y1 y2 y3 y4 y5 yz q
              go_wp2_with fail
              go_loopw [13, 14, 90] (fun f _ i wr => ∃ m : Nat, m ≤ d ∧ i = .int .i64 m ∧ f = .bool (freeTo T h m) ∧ St w wr [It.own l2 h2 a2 xs, It.box w1.heap.size #[.int .i64 T.t, .int .i64 T.p, .slice (some ⟨b, o, none⟩) T.zs.length c1] 25, It.own lo hi (some ⟨b, o, none⟩) T.zs]) (fun _ _ i _ => d - (intOf i).toNat)
              case atStart => exact ⟨0, Nat.zero_le _, rfl, rfl, S11⟩
              case round =>
                obtain ⟨m, hm, rfl, rfl, Sm⟩ := hrel
                clear S11
                obtain ⟨y0, y1, y2, y3, y4, y5, yz⟩ := facts3 (Sm.cells 1 rfl)
                by_cases hlt2 : m < d
                · have dm : decide ((m : Int) < (d : Int)) = true := decide_eq_true (by omega)
                  cases hfr : freeTo T h m
                  · obtain ⟨i, hi'⟩ : ∃ i, stepS T h m = i := ⟨_, rfl⟩
                    have hi1 : i < T.zs.length := by rw [← hi']; exact stepS_lt n1 h m
                    obtain ⟨b', o', z, e, q, Z⟩ := (Sm.ints 2 rfl).at hi1
                    cases e
                    have s1 : IntKind.i64.wrap ((h : Int) + (m : Int)) = (h : Int) + m := IntWalk.i64_in _ (by omega)
                    have s3 : ((h : Int) + (m : Int)).tmod (T.zs.length : Int) = (i : Int) := by rw [Int.tmod_eq_emod_of_nonneg (by omega), step_cast, hi']
                    have j0 : (0 : Int) ≤ (i : Int) := by omega
                    have j1 : (i : Int) < (T.zs.length : Int) := by omega
                    have FS : Hid (freeTo T h (m + 1) = (z == -1)) := Lib.hid (by rw [freeTo_succ, hfr, hi', Z.out]; rfl)
                    clear hi' hfr
                    go_wp2_with fail
                    go_region_held3 (fun w' => w'.cell? ⟨w1.heap.size, 0, none⟩ = some (.int .i64 T.t) ∧ w'.cell? ⟨w1.heap.size, 1, none⟩ = some (.int .i64 T.p) ∧ w'.cell? ⟨w1.heap.size, 2, none⟩ = some (.slice (some ⟨b, o, none⟩) T.zs.length c1) ∧ w'.cell? ⟨b, o + i, none⟩ = some (.int .i64 z))
                      (first
                        | exact ⟨y0, y1, y2, q⟩
                        | exact ⟨(S7.three 1 rfl).1, (S7.three 1 rfl).2.1, (S7.three 1 rfl).2.2, Q7⟩)
                      (first
                        | (go_at_call 16; refine (HH.out _ (by omega) (by exact Sm.drew.ints 2 rfl)).mono ?_; rintro e w7 ⟨rfl, hb⟩; have S7 := Sm.drew.below hb; have Q7 := lost_cell (S7.owns 2 rfl) hi1 Z.out; clear hb))
                    go_wp2
                    go_roundw
                    case rel => exact ⟨m + 1, by omega, by go_num, by rw [FS.out], S7⟩
                    case measure => simp [intOf]; omega
                  · have FS : Hid (freeTo T h (m + 1) = true) := Lib.hid (by rw [freeTo_succ, hfr]; rfl)
                    clear hfr
                    go_wp2_with fail
                    go_quiet (fail)
                    go_wp2
                    go_roundw
                    case rel => exact ⟨m + 1, by omega, by go_num, by rw [FS.out], Sm.drewN _⟩
                    case measure => simp [intOf]; omega
                · obtain rfl : m = d := by omega
                  have dm : decide ((m : Int) < (m : Int)) = false := decide_eq_false (by omega)
                  rw [E3.out]
                  clear E3 hlt2
                  go_wp2_with fail
                  refine (otHas_any a2 c2 xs x _ (by omega) (by exact Sm.ints 0 rfl)).mono ?_
                  rintro e w9 ⟨rfl, rfl⟩
                  generalize decide (x ∈ xs) = bb
                  go_wp2
                  go_roundw
                  case rel => exact ⟨k + 1, by omega, by go_num, Sm⟩
                  case measure => simp [intOf]; omega
          · go_wp2_with fail
            refine (HSO.out _ (by omega) (by exact Sr.ints 2 rfl)).mono ?_
            rintro e w8 ⟨rfl, hb⟩
            have S11 := Sr.below hb
            have zi := zero_int xs.length
            go_wp2
            go_ret
            exact ⟨rfl, S11.old⟩
    · have t2 : decide (1048576 < (ys'.length : Int)) = true := by simp; omega
      go_enter Try.func3, Try.ntmps3
      go_wp2_with fail
      go_ret
      exact ⟨rfl, S0.old⟩
  · have t1 : decide (1048576 < (ys.length : Int)) = true := by simp; omega
    go_enter Try.func3, Try.ntmps3
    go_wp2_with fail
    go_ret
    exact ⟨rfl, S0.old⟩

end Go.Proofs.Ytfkdandmedojpaa

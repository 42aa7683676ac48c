/-
  The law FnFairMiss: the walk.
-/
import Derived.Test.YtpncpeokdcolpaaGreatDoorDrawn
import Derived.Test.YtpncpeokdcolpaaGreatDoorDraw12Z
import Derived.Test.YtpncpeokdcolpaaGreatDoorCostsAll
import Derived.Test.YtpncpeokdcolpaaGreatDoorBase
import Derived.Test.YtpncpeokdcolpaaGreatDoorMost
import Derived.Test.YtpncpeokdcolpaaGreatDoorOt
import Derived.Test.YtpncpeokdcolpaaGreatDoorMath
namespace Go.Proofs.YtpncpeokdcolpaaGreatDoor
open Go.RowKit

set_option maxRecDepth 100000 in
set_option maxHeartbeats 16000000 in
theorem walkFnFairMiss (w : World) (a : Option Addr) (len cap : Nat) (zs : List Int) (h : IsRow .u8 w a len cap zs) (hL : Laid w) :
    Calls Tryz.prog 4 #[.slice a len cap] w fun e w' => e = .returned (.bool true) ∧ Below w.heap.size w w' := by
  obtain ⟨ys, rfl, hC, S0⟩ := came_of h
  clear h
  by_cases hs : ys.length ≤ 1048576
  · have t1 : decide (1048576 < (ys.length : Int)) = false := by simp; omega
    go_enter Tryz.func4, Tryz.ntmps4
    go_wp2_with fail
    refine (DrawFairMiss_any (by exact S0) hC).mono ?_
    rintro e w1 ⟨T, a1, c1, lo, hi, home, rfl, hT, ⟨k1, k2⟩, hlo, S1⟩
    obtain ⟨n1, n2⟩ := hT.len
    have S2 := S1.alloc #[.int .i64 T.t, .int .i64 T.p, .slice a1 T.zs.length c1] 27
    have HMI := Lib.hid fun (W : World) h hl => FairMiss_any T a1 c1 home W (by omega) h hl
    have HMS := Lib.hid fun (W : World) h => specFairMiss_any T a1 c1 home W (by omega) h
    cases hq : (fairB T && inB home 0 (T.zs.length - 1))
    · have E : fmissI T home = -1 := by simp [fmissI, hq]
      rw [E] at HMI HMS
      obtain ⟨x0, x1, x2, x3, x4, x5, xz⟩ := facts3 (S2.cells 0 rfl)
      go_wp2_with fail
      clear x0 x1 x2 x3 x4 x5 xz
      refine (HMI.out _ (by exact S2.ints 1 rfl) (hL.below S2.old hL.pos)).mono ?_
      rintro e w2 ⟨rfl, hb⟩
      have S3 := S1.alloc1 hb
      clear S1 S2 hb
      obtain ⟨x0, x1, x2, x3, x4, x5, xz⟩ := facts3 (S3.cells 0 rfl)
      go_wp2_with fail
      clear x0 x1 x2 x3 x4 x5 xz
      refine (HMS.out _ (by exact S3.ints 1 rfl)).mono ?_
      rintro e w3 ⟨rfl, hb⟩
      have S4 := S3.below hb
      clear S3 hb
      obtain ⟨x0, x1, x2, x3, x4, x5, xz⟩ := facts3 (S4.cells 0 rfl)
      go_wp2_with fail
      clear x0 x1 x2 x3 x4 x5 xz
      refine (HMS.out _ (by exact S4.ints 1 rfl)).mono ?_
      rintro e w4 ⟨rfl, hb⟩
      have S5 := S4.below hb
      go_wp2_with fail
      go_ret
      exact ⟨rfl, S5.old⟩
    · simp only [Bool.and_eq_true] at hq
      obtain ⟨hf, hin⟩ := hq
      obtain ⟨s0, s1⟩ := inB_iff.1 hin
      obtain ⟨s, rfl⟩ : ∃ s : Nat, home = s := ⟨home.toNat, by omega⟩
      have hsl : s < T.zs.length := by omega
      have M := fairmiss_says hf hsl
      have E : fmissI T s = (fmissN T s : Nat) := by simp [fmissI, hf, hin]
      rw [E] at HMI HMS
      have HLO := Lib.hid M.low
      have HTP := Lib.hid M.top
      have HMA := fun (W : World) h => MissAt_any T a1 c1 (s : Nat) W (by omega) h
      rw [M.miss.1] at HMA
      have HMA := Lib.hid HMA
      have HMO := Lib.hid fun (W : World) h => MostAway_any T a1 c1 W (by omega) h
      have HHO := Lib.hid fun (k : Int) (W : World) h => HomeOf_any T a1 c1 k W (by omega) h
      have HFV := Lib.hid fun (k : Int) (W : World) h hl => FairVisits_any T a1 c1 k W (by omega) h hl
      have hle := M.miss.2
      obtain ⟨mo1, mo2, mo3⟩ := M.most
      obtain ⟨sz1, sz2⟩ := M.size
      clear M E hf hin hT
      generalize fmissN T s = n at HMI HMS HLO HTP hle mo1 sz1
      generalize missN T s = mn at HMA hle
      generalize mostAway T = mo at HMO mo1 mo2 mo3
      have m0 : decide ((n : Int) < 0) = false := decide_eq_false (by omega)
      obtain ⟨x0, x1, x2, x3, x4, x5, xz⟩ := facts3 (S2.cells 0 rfl)
      go_wp2_with fail
      clear x0 x1 x2 x3 x4 x5 xz
      refine (HMI.out _ (by exact S2.ints 1 rfl) (hL.below S2.old hL.pos)).mono ?_
      rintro e w2 ⟨rfl, hb⟩
      have S3 := S1.alloc1 hb
      clear S1 S2 hb
      obtain ⟨x0, x1, x2, x3, x4, x5, xz⟩ := facts3 (S3.cells 0 rfl)
      go_wp2_with fail
      clear x0 x1 x2 x3 x4 x5 xz
      refine (HMS.out _ (by exact S3.ints 1 rfl)).mono ?_
      rintro e w3 ⟨rfl, hb⟩
      have S4 := S3.below hb
      clear S3 hb
      go_wp2_with fail
      go_loopw [6, 7, 9, 39] (fun _ _ _ i wr => ∃ k : Nat, k ≤ 100 ∧ i = .int .i64 k ∧ St w wr [It.box w1.heap.size #[.int .i64 T.t, .int .i64 T.p, .slice a1 T.zs.length c1] 27, It.own lo hi a1 T.zs]) (fun _ _ _ i _ => 100 - (intOf i).toNat)
      case atStart => exact ⟨0, Nat.zero_le _, rfl, S4⟩
      case round =>
        obtain ⟨k, hk, rfl, Sr⟩ := hrel
        clear S4
        obtain ⟨x0, x1, x2, x3, x4, x5, xz⟩ := facts3 (Sr.cells 0 rfl)
        by_cases hlt : k < 100
        · have HHk := Lib.hid fun W h => HHO.out k W h
          have HLk := Lib.hid (HLO.out k (by omega))
          have HTk := Lib.hid (HTP.out k (by omega))
          have HFk := Lib.hid fun W h hl => HFV.out k W h hl
          have HOk := Lib.hid fun (W : World) h => otHas_any a1 c1 T.zs (k : Int) W (by omega) h
          generalize homeOf T (k : Int) = ho at HHk HLk HTk
          generalize fairVis T (k : Int) = fv at HLk HTk HFk
          go_wp2_with fail
          clear x0 x1 x2 x3 x4 x5 xz
          refine (HHk.out _ (by exact Sr.ints 1 rfl)).mono ?_
          rintro e w7 ⟨rfl, hb⟩
          have S7 := Sr.below hb
          clear Sr hb
          obtain ⟨x0, x1, x2, x3, x4, x5, xz⟩ := facts3 (S7.cells 0 rfl)
          by_cases c2' : ho = (s : Int)
          · subst c2'
            have HTk1 := Lib.hid (HTk.out rfl)
            clear HTk
            cases c3' : decide ((k : Int) ∈ T.zs)
            · rw [c3'] at HOk
              have hlo2 := HLk.out rfl
              go_wp2_with (first | (go_at_call 15; refine (HOk.out _ (by exact S7.ints 1 rfl)).mono ?_; rintro e w' ⟨rfl, rfl⟩))
              clear x0 x1 x2 x3 x4 x5 xz
              have HT0 : Hid (Value.bool true = .bool (topB T k s 0)) := Lib.hid rfl
              go_loopw [7, 9, 56] (fun mv _ i wr => ∃ j : Nat, j ≤ T.zs.length ∧ i = .int .i64 j ∧ mv = .bool (topB T k s j) ∧ St w wr [It.box w1.heap.size #[.int .i64 T.t, .int .i64 T.p, .slice a1 T.zs.length c1] 27, It.own lo hi a1 T.zs]) (fun _ _ i _ => T.zs.length - (intOf i).toNat)
              case atStart => exact ⟨0, Nat.zero_le _, rfl, HT0.out, S7⟩
              case round =>
                obtain ⟨j, hj, rfl, rfl, Sq⟩ := hrel
                clear S7
                obtain ⟨x0, x1, x2, x3, x4, x5, xz⟩ := facts3 (Sq.cells 0 rfl)
                by_cases hlt2 : j < T.zs.length
                · obtain ⟨b, o, x, ea, q, X⟩ := (Sq.ints 1 rfl).at hlt2
                  subst ea
                  have HTS := Lib.hid (topB_succ T k s j)
                  rw [X.out] at HTS
                  have HHx := Lib.hid fun W h => HHO.out x W h
                  generalize homeOf T x = hx at HTS HHx
                  generalize hq3 : topB T k s (j + 1) = q3 at HTS
                  have HQ3 := Lib.hid hq3
                  clear hq3
                  generalize topB T k s j = mv at HTS ⊢
                  cases mv
                  · go_wp2_with fail
                    go_roundw
                    case rel => exact ⟨j + 1, by omega, by go_num, by rw [HQ3.out, HTS.out]; rfl, Sq⟩
                    case measure => simp [intOf]; omega
                  · by_cases cx : x < (k : Int)
                    · have d1 : decide (x < (k : Int)) = true := decide_eq_true cx
                      go_wp2_with fail
                      go_roundw
                      case rel => exact ⟨j + 1, by omega, by go_num, by rw [HQ3.out, HTS.out, d1]; rfl, Sq⟩
                      case measure => simp [intOf]; omega
                    · have d1 : decide (x < (k : Int)) = false := decide_eq_false cx
                      go_wp2_with fail
                      clear x0 x1 x2 x3 x4 x5 xz
                      refine (HHx.out _ (by exact Sq.ints 1 rfl)).mono ?_
                      rintro e w8 ⟨rfl, hb⟩
                      have S8 := Sq.below hb
                      go_wp2_with fail
                      go_roundw
                      case rel => exact ⟨j + 1, by omega, by go_num, by rw [HQ3.out, HTS.out, d1]; rfl, S8⟩
                      case measure => simp [intOf]; omega
                · obtain rfl : j = T.zs.length := by omega
                  have d5 : decide ((n : Int) < fv) = false := decide_eq_false (by omega)
                  have HTk2 := Lib.hid HTk1.out
                  generalize topB T k s T.zs.length = mv at HTk2 ⊢
                  cases mv
                  · go_wp2_with fail
                    clear x0 x1 x2 x3 x4 x5 xz
                    refine (HFk.out _ (by exact Sq.ints 1 rfl) (hL.below Sq.old hL.pos)).mono ?_
                    rintro e w9 ⟨rfl, hb⟩
                    have S9 := Sq.below hb
                    go_wp2_with fail
                    go_roundw
                    case rel => exact ⟨k + 1, by omega, by go_num, S9⟩
                    case measure => simp [intOf]; omega
                  · have hfe := HTk2.out rfl
                    subst hfe
                    go_wp2_with fail
                    clear x0 x1 x2 x3 x4 x5 xz
                    refine (HFk.out _ (by exact Sq.ints 1 rfl) (hL.below Sq.old hL.pos)).mono ?_
                    rintro e w9 ⟨rfl, hb⟩
                    have S9 := Sq.below hb
                    clear Sq hb
                    obtain ⟨x0, x1, x2, x3, x4, x5, xz⟩ := facts3 (S9.cells 0 rfl)
                    go_wp2_with fail
                    clear x0 x1 x2 x3 x4 x5 xz
                    refine (HFk.out _ (by exact S9.ints 1 rfl) (hL.below S9.old hL.pos)).mono ?_
                    rintro e w10 ⟨rfl, hb⟩
                    have S10 := S9.below hb
                    go_wp2_with fail
                    go_roundw
                    case rel => exact ⟨k + 1, by omega, by go_num, S10⟩
                    case measure => simp [intOf]; omega
            · rw [c3'] at HOk
              go_wp2_with (first | (go_at_call 15; refine (HOk.out _ (by exact S7.ints 1 rfl)).mono ?_; rintro e w' ⟨rfl, rfl⟩))
              go_roundw
              case rel => exact ⟨k + 1, by omega, by go_num, S7⟩
              case measure => simp [intOf]; omega
          · have d2 : (ho == (s : Int)) = false := beq_eq_false_iff_ne.2 c2'
            go_wp2_with fail
            go_roundw
            case rel => exact ⟨k + 1, by omega, by go_num, S7⟩
            case measure => simp [intOf]; omega
        · obtain rfl : k = 100 := by omega
          have d7 : decide ((n : Int) ≤ (mn : Int)) = true := decide_eq_true (by omega)
          have d8 : decide ((n : Int) ≤ mo + 2) = true := decide_eq_true (by omega)
          go_wp2_with fail
          clear x0 x1 x2 x3 x4 x5 xz
          refine (HMA.out _ (by exact Sr.ints 1 rfl)).mono ?_
          rintro e w8 ⟨rfl, hb⟩
          have S8 := Sr.below hb
          clear Sr hb
          obtain ⟨x0, x1, x2, x3, x4, x5, xz⟩ := facts3 (S8.cells 0 rfl)
          go_wp2_with fail
          clear x0 x1 x2 x3 x4 x5 xz
          refine (HMO.out _ (by exact S8.ints 1 rfl)).mono ?_
          rintro e w9 ⟨rfl, hb⟩
          have S9 := S8.below hb
          go_wp2_with fail
          go_ret
          exact ⟨rfl, S9.old⟩
  · have t1 : decide (1048576 < (ys.length : Int)) = true := by simp; omega
    go_enter Tryz.func4, Tryz.ntmps4
    go_wp2_with fail
    go_ret
    exact ⟨rfl, S0.old⟩

end Go.Proofs.YtpncpeokdcolpaaGreatDoor

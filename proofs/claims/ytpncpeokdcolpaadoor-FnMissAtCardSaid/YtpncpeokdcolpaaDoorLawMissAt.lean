/-
  The law FnMissAt: the walk.
-/
import Derived.Test.YtpncpeokdcolpaaDoorDrawn
import Derived.Test.YtpncpeokdcolpaaDoorDraw12D
import Derived.Test.YtpncpeokdcolpaaDoorCount
import Derived.Test.YtpncpeokdcolpaaDoorMissAtIS
import Derived.Test.YtpncpeokdcolpaaDoorRunsOfI
import Derived.Test.YtpncpeokdcolpaaDoorWorstM
import Derived.Test.YtpncpeokdcolpaaDoorFindI
import Derived.Test.YtpncpeokdcolpaaDoorBase
import Derived.Test.YtpncpeokdcolpaaDoorVisits
import Derived.Test.YtpncpeokdcolpaaDoorOt
namespace Go.Proofs.YtpncpeokdcolpaaDoor
open Go.RowKit

set_option maxRecDepth 100000 in
set_option maxHeartbeats 8000000 in
theorem walkFnMissAt (w : World) (a : Option Addr) (len cap : Nat) (zs : List Int) (h : IsRow .u8 w a len cap zs) (hL : Laid w) :
    Calls Tryd.prog 3 #[.slice a len cap] w fun e w' => e = .returned (.bool true) ∧ Below w.heap.size w w' := by
  obtain ⟨ys, rfl, hC, S0⟩ := came_of h
  clear h
  by_cases hs : ys.length ≤ 1048576
  · have t1 : decide (1048576 < (ys.length : Int)) = false := by simp; omega
    go_enter Tryd.func3, Tryd.ntmps3
    go_wp2_with fail
    refine (DrawMissAt_any (by exact S0) hC).mono ?_
    rintro e w1 ⟨T, a1, c1, lo, hi, home, rfl, hT, ⟨k1, k2⟩, hlo, S1⟩
    obtain ⟨n1, n2⟩ := hT.len
    have S2 := S1.alloc #[.int .i64 T.t, .int .i64 T.p, .slice a1 T.zs.length c1] 25
    have HMI := Lib.hid fun (W : World) h => MissAt_any T a1 c1 home W (by omega) h
    have HMS := Lib.hid fun (W : World) h => specMissAt_any T a1 c1 home W (by omega) h
    cases hq : (validB T && inB home 0 (T.zs.length - 1))
    · have E : missI T home = -1 := by simp [missI, hq]
      rw [E] at HMI HMS
      obtain ⟨x0, x1, x2, x3, x4, x5, xz⟩ := facts3 (S2.cells 0 rfl)
      go_wp2_with fail
      clear x0 x1 x2 x3 x4 x5 xz
      refine (HMI.out _ (by exact S2.ints 1 rfl)).mono ?_
      rintro e w2 ⟨rfl, hb⟩
      have S3 := S1.alloc1 hb
      clear S1 S2 hb
      obtain ⟨x0, x1, x2, x3, x4, x5, xz⟩ := facts3 (S3.cells 0 rfl)
      go_wp2_with fail
      clear x0 x1 x2 x3 x4 x5 xz
      refine (HMS.out _ (by exact S3.ints 1 rfl)).mono ?_
      rintro e w3 ⟨rfl, hb⟩
      have S4 := S3.below hb
      clear S3 hb
      obtain ⟨x0, x1, x2, x3, x4, x5, xz⟩ := facts3 (S4.cells 0 rfl)
      go_wp2_with fail
      clear x0 x1 x2 x3 x4 x5 xz
      refine (HMS.out _ (by exact S4.ints 1 rfl)).mono ?_
      rintro e w4 ⟨rfl, hb⟩
      have S5 := S4.below hb
      go_wp2_with fail
      go_ret
      exact ⟨rfl, S5.old⟩
    · simp only [Bool.and_eq_true] at hq
      obtain ⟨hv, hin⟩ := hq
      obtain ⟨s0, s1⟩ := inB_iff.1 hin
      obtain ⟨s, rfl⟩ : ∃ s : Nat, home = s := ⟨home.toNat, by omega⟩
      have hsl : s < T.zs.length := by omega
      have hmr := (miss_run hv hsl).1
      rw [hmr] at HMI HMS
      have htail := miss_tail hv hsl
      have HFI := Lib.hid fun (k : Int) (W : World) h hl => FindKey_any T a1 c1 k W (by omega) h hl
      have HHO := Lib.hid fun (k : Int) (W : World) h => HomeOf_any T a1 c1 k W (by omega) h
      have HVI := Lib.hid fun (k : Int) (W : World) h => VisitsFor_any T a1 c1 k W (by omega) h
      have HC := Lib.hid fun (W : World) h => CountSlots_any T a1 c1 W (by omega) h
      have HRA := fun (W : World) h => RunAt_any T a1 c1 (s : Nat) W (by omega) h
      have HEQ : Hid (∀ k : Nat, k ≤ 99 → homeOf T (k : Int) = (s : Int) → (k : Int) ∉ T.zs → visOf T (k : Int) = (missN T s : Nat)) := Lib.hid fun k hk hh hn => by
        have hkb : inB (k : Int) 0 99 = true := inB_true (by omega)
        have he := homeN_eq hv (k : Int)
        rw [← homeOf_yes hv hkb, ← he] at hh
        have hh2 : homeN T (k : Int) = s := by omega
        simp only [visOf, hv, hkb, Bool.and_self, if_true]
        rw [vis_miss hn (by omega), hh2]
      obtain ⟨pp, qq, bb, hV⟩ : ∃ (pp qq : Nat) (bb : Bool), runV (runAt T (s : Int)) = .tuple #[.agg #[.int .i64 pp, .int .i64 qq], .bool bb] := ⟨_, _, _, rfl⟩
      rw [hV] at HRA
      have HRA := Lib.hid HRA
      have HV := Lib.hid hV
      have hmb : missN T s ≤ T.zs.length := (cntN_bounds (p := freeAt T s) (by omega)).2
      clear hV hmr hv hin hT
      generalize countF T = cf at HC htail
      generalize missN T s = mm at HMI HMS htail HEQ hmb
      have m0 : decide ((mm : Int) < 0) = false := decide_eq_false (by omega)
      obtain ⟨x0, x1, x2, x3, x4, x5, xz⟩ := facts3 (S2.cells 0 rfl)
      go_wp2_with fail
      clear x0 x1 x2 x3 x4 x5 xz
      refine (HMI.out _ (by exact S2.ints 1 rfl)).mono ?_
      rintro e w2 ⟨rfl, hb⟩
      have S3 := S1.alloc1 hb
      clear S1 S2 hb
      obtain ⟨x0, x1, x2, x3, x4, x5, xz⟩ := facts3 (S3.cells 0 rfl)
      go_wp2_with fail
      clear x0 x1 x2 x3 x4 x5 xz
      refine (HMS.out _ (by exact S3.ints 1 rfl)).mono ?_
      rintro e w3 ⟨rfl, hb⟩
      have S4 := S3.below hb
      clear S3 hb
      obtain ⟨x0, x1, x2, x3, x4, x5, xz⟩ := facts3 (S4.cells 0 rfl)
      go_wp2_with fail
      clear x0 x1 x2 x3 x4 x5 xz
      refine (HRA.out _ (by exact S4.ints 1 rfl)).mono ?_
      rintro e w4 ⟨rfl, hb⟩
      have S5 := (S4.below hb).alloc #[.int .i64 pp, .int .i64 qq] 30
      clear S4 hb
      obtain ⟨x0, x1, x2, x3, x4, x5, xz⟩ := facts3 (S5.cells 1 rfl)
      obtain ⟨y0, y1, y2, y3, yz⟩ := facts2 (S5.cells 0 rfl)
      obtain ⟨RB, hRB⟩ : ∃ RB, w4.heap.size = RB := ⟨_, rfl⟩
      rcases htail with ⟨h1, h2, h3⟩ | ⟨p, q, d, h1, h2, h3, h4, h5, hor⟩
      · have hbb : bb = false := by have := HV.out; rw [h1] at this; simp [runV] at this; exact this.2
        subst hbb h2
        have d0 : (cf == 0) = false := beq_eq_false_iff_ne.2 h3
        rw [hRB] at S5 y0 y1 y2 y3
        go_wp2_with fail
        clear x0 x1 x2 x3 x4 x5 xz y0 y1 y2 y3 yz
        refine (HC.out _ (by exact S5.ints 2 rfl)).mono ?_
        rintro e w6 ⟨rfl, hb⟩
        have S6 := S5.below hb
        clear S5 hb
        go_wp2_with fail
        go_loopw [78] (fun i wr => ∃ k : Nat, k ≤ 100 ∧ i = .int .i64 k ∧ St w wr [It.box RB #[.int .i64 pp, .int .i64 qq] 30, It.box w1.heap.size #[.int .i64 T.t, .int .i64 T.p, .slice a1 T.zs.length c1] 25, It.own lo hi a1 T.zs]) (fun i _ => 100 - (intOf i).toNat)
        case atStart => exact ⟨0, Nat.zero_le _, rfl, S6⟩
        case round =>
          obtain ⟨k, hk, rfl, Sr⟩ := hrel
          clear S6
          obtain ⟨x0, x1, x2, x3, x4, x5, xz⟩ := facts3 (Sr.cells 1 rfl)
          have z9 := Sr.size
          by_cases hlt : k < 100
          · have HFk := Lib.hid fun W h hl => HFI.out k W h hl
            have HHk := Lib.hid fun W h => HHO.out k W h
            have HVk := Lib.hid fun W h => HVI.out k W h
            have HEk := Lib.hid (HEQ.out k (by omega))
            have HOk := Lib.hid fun (W : World) h => otHas_any a1 c1 T.zs (k : Int) W (by omega) h
            generalize findOf T (k : Int) = fd at HFk
            generalize homeOf T (k : Int) = ho at HHk HEk
            generalize visOf T (k : Int) = vs at HVk HEk
            go_wp2_with fail
            clear x0 x1 x2 x3 x4 x5 xz
            refine (HFk.out _ (by exact Sr.ints 2 rfl) (hL.below Sr.old hL.pos)).mono ?_
            rintro e w7 ⟨rfl, hb⟩
            have S7 := Sr.below hb
            clear Sr hb
            obtain ⟨x0, x1, x2, x3, x4, x5, xz⟩ := facts3 (S7.cells 1 rfl)
            by_cases c1' : 0 ≤ fd
            · have d1 : decide (0 ≤ fd) = true := decide_eq_true c1'
              go_wp2_with fail
              go_roundw
              case rel => exact ⟨k + 1, by omega, by go_num, S7⟩
              case measure => simp [intOf]; omega
            · have d1 : decide (0 ≤ fd) = false := decide_eq_false c1'
              go_wp2_with fail
              clear x0 x1 x2 x3 x4 x5 xz
              refine (HHk.out _ (by exact S7.ints 2 rfl)).mono ?_
              rintro e w8 ⟨rfl, hb⟩
              have S8 := S7.below hb
              clear S7 hb
              obtain ⟨x0, x1, x2, x3, x4, x5, xz⟩ := facts3 (S8.cells 1 rfl)
              by_cases c2' : ho = (s : Int)
              · subst c2'
                cases c3' : decide ((k : Int) ∈ T.zs)
                · have hve := HEk.out rfl (of_decide_eq_false c3')
                  subst hve
                  rw [c3'] at HOk
                  go_wp2_with (first | (go_at_call 11; refine (HOk.out _ (by exact S8.ints 2 rfl)).mono ?_; rintro e w' ⟨rfl, rfl⟩))
                  refine (HVk.out _ (by exact S8.ints 2 rfl)).mono ?_
                  rintro e w9 ⟨rfl, hb⟩
                  have S9 := S8.below hb
                  go_wp2_with fail
                  go_roundw
                  case rel => exact ⟨k + 1, by omega, by go_num, S9⟩
                  case measure => simp [intOf]; omega
                · rw [c3'] at HOk
                  go_wp2_with (first | (go_at_call 11; refine (HOk.out _ (by exact S8.ints 2 rfl)).mono ?_; rintro e w' ⟨rfl, rfl⟩))
                  go_roundw
                  case rel => exact ⟨k + 1, by omega, by go_num, S8⟩
                  case measure => simp [intOf]; omega
              · have d2 : (ho == (s : Int)) = false := beq_eq_false_iff_ne.2 c2'
                go_wp2_with fail
                go_roundw
                case rel => exact ⟨k + 1, by omega, by go_num, S8⟩
                case measure => simp [intOf]; omega
          · obtain rfl : k = 100 := by omega
            go_wp2_with fail
            go_ret
            exact ⟨rfl, Sr.old⟩
      · have hbb : bb = true ∧ p = pp ∧ q = qq := by
          have := HV.out; rw [h1] at this; simp [runV] at this
          exact ⟨this.2, by omega, by omega⟩
        obtain ⟨rfl, rfl, rfl⟩ := hbb
        have ln : ((T.zs.length : Int) == 0) = false := beq_eq_false_iff_ne.2 (by omega)
        have hne : ¬ T.zs = [] := by intro e; rw [e] at hsl; simp at hsl
        clear h1
        rw [hRB] at S5 y0 y1 y2 y3
        have S5D := fun n => S5.below (below_drewN (Below.refl _ _) n)
        go_wp2_with fail
        go_quiet (fail)
        go_wp2_with fail
        clear x0 x1 x2 x3 x4 x5 xz y0 y1 y2 y3 yz
        refine (HC.out _ (by exact (S5D _).ints 2 rfl)).mono ?_
        rintro e w6 ⟨rfl, hb⟩
        have S6 := (S5D _).below hb
        clear S5 S5D hb
        rcases hor with ⟨c0, rfl⟩ | ⟨c0, c9⟩
        · subst c0
          obtain ⟨x0, x1, x2, x3, x4, x5, xz⟩ := facts3 (S6.cells 1 rfl)
          go_wp2_with fail
          clear x0 x1 x2 x3 x4 x5 xz
          go_loopw [78] (fun i wr => ∃ k : Nat, k ≤ 100 ∧ i = .int .i64 k ∧ St w wr [It.box RB #[.int .i64 p, .int .i64 q] 30, It.box w1.heap.size #[.int .i64 T.t, .int .i64 T.p, .slice a1 T.zs.length c1] 25, It.own lo hi a1 T.zs]) (fun i _ => 100 - (intOf i).toNat)
          case atStart => exact ⟨0, Nat.zero_le _, rfl, S6⟩
          case round =>
            obtain ⟨k, hk, rfl, Sr⟩ := hrel
            clear S6
            obtain ⟨x0, x1, x2, x3, x4, x5, xz⟩ := facts3 (Sr.cells 1 rfl)
            have z9 := Sr.size
            by_cases hlt : k < 100
            · have HFk := Lib.hid fun W h hl => HFI.out k W h hl
              have HHk := Lib.hid fun W h => HHO.out k W h
              have HVk := Lib.hid fun W h => HVI.out k W h
              have HEk := Lib.hid (HEQ.out k (by omega))
              have HOk := Lib.hid fun (W : World) h => otHas_any a1 c1 T.zs (k : Int) W (by omega) h
              generalize findOf T (k : Int) = fd at HFk
              generalize homeOf T (k : Int) = ho at HHk HEk
              generalize visOf T (k : Int) = vs at HVk HEk
              go_wp2_with fail
              clear x0 x1 x2 x3 x4 x5 xz
              refine (HFk.out _ (by exact Sr.ints 2 rfl) (hL.below Sr.old hL.pos)).mono ?_
              rintro e w7 ⟨rfl, hb⟩
              have S7 := Sr.below hb
              clear Sr hb
              obtain ⟨x0, x1, x2, x3, x4, x5, xz⟩ := facts3 (S7.cells 1 rfl)
              by_cases c1' : 0 ≤ fd
              · have d1 : decide (0 ≤ fd) = true := decide_eq_true c1'
                go_wp2_with fail
                go_roundw
                case rel => exact ⟨k + 1, by omega, by go_num, S7⟩
                case measure => simp [intOf]; omega
              · have d1 : decide (0 ≤ fd) = false := decide_eq_false c1'
                go_wp2_with fail
                clear x0 x1 x2 x3 x4 x5 xz
                refine (HHk.out _ (by exact S7.ints 2 rfl)).mono ?_
                rintro e w8 ⟨rfl, hb⟩
                have S8 := S7.below hb
                clear S7 hb
                obtain ⟨x0, x1, x2, x3, x4, x5, xz⟩ := facts3 (S8.cells 1 rfl)
                by_cases c2' : ho = (s : Int)
                · subst c2'
                  cases c3' : decide ((k : Int) ∈ T.zs)
                  · have hve := HEk.out rfl (of_decide_eq_false c3')
                    subst hve
                    rw [c3'] at HOk
                    go_wp2_with (first | (go_at_call 11; refine (HOk.out _ (by exact S8.ints 2 rfl)).mono ?_; rintro e w' ⟨rfl, rfl⟩))
                    refine (HVk.out _ (by exact S8.ints 2 rfl)).mono ?_
                    rintro e w9 ⟨rfl, hb⟩
                    have S9 := S8.below hb
                    go_wp2_with fail
                    go_roundw
                    case rel => exact ⟨k + 1, by omega, by go_num, S9⟩
                    case measure => simp [intOf]; omega
                  · rw [c3'] at HOk
                    go_wp2_with (first | (go_at_call 11; refine (HOk.out _ (by exact S8.ints 2 rfl)).mono ?_; rintro e w' ⟨rfl, rfl⟩))
                    go_roundw
                    case rel => exact ⟨k + 1, by omega, by go_num, S8⟩
                    case measure => simp [intOf]; omega
                · have d2 : (ho == (s : Int)) = false := beq_eq_false_iff_ne.2 c2'
                  go_wp2_with fail
                  go_roundw
                  case rel => exact ⟨k + 1, by omega, by go_num, S8⟩
                  case measure => simp [intOf]; omega
            · obtain rfl : k = 100 := by omega
              go_wp2_with fail
              go_ret
              exact ⟨rfl, Sr.old⟩

        · have d0 : (cf == 0) = false := beq_eq_false_iff_ne.2 c0
          have hqd : (q : Int) - (d : Int) + 1 = (mm : Int) := by omega
          clear c9
          go_wp2_with fail
          go_loopw [78] (fun i wr => ∃ k : Nat, k ≤ 100 ∧ i = .int .i64 k ∧ St w wr [It.box RB #[.int .i64 p, .int .i64 q] 30, It.box w1.heap.size #[.int .i64 T.t, .int .i64 T.p, .slice a1 T.zs.length c1] 25, It.own lo hi a1 T.zs]) (fun i _ => 100 - (intOf i).toNat)
          case atStart => exact ⟨0, Nat.zero_le _, rfl, S6⟩
          case round =>
            obtain ⟨k, hk, rfl, Sr⟩ := hrel
            clear S6
            obtain ⟨x0, x1, x2, x3, x4, x5, xz⟩ := facts3 (Sr.cells 1 rfl)
            have z9 := Sr.size
            by_cases hlt : k < 100
            · have HFk := Lib.hid fun W h hl => HFI.out k W h hl
              have HHk := Lib.hid fun W h => HHO.out k W h
              have HVk := Lib.hid fun W h => HVI.out k W h
              have HEk := Lib.hid (HEQ.out k (by omega))
              have HOk := Lib.hid fun (W : World) h => otHas_any a1 c1 T.zs (k : Int) W (by omega) h
              generalize findOf T (k : Int) = fd at HFk
              generalize homeOf T (k : Int) = ho at HHk HEk
              generalize visOf T (k : Int) = vs at HVk HEk
              go_wp2_with fail
              clear x0 x1 x2 x3 x4 x5 xz
              refine (HFk.out _ (by exact Sr.ints 2 rfl) (hL.below Sr.old hL.pos)).mono ?_
              rintro e w7 ⟨rfl, hb⟩
              have S7 := Sr.below hb
              clear Sr hb
              obtain ⟨x0, x1, x2, x3, x4, x5, xz⟩ := facts3 (S7.cells 1 rfl)
              by_cases c1' : 0 ≤ fd
              · have d1 : decide (0 ≤ fd) = true := decide_eq_true c1'
                go_wp2_with fail
                go_roundw
                case rel => exact ⟨k + 1, by omega, by go_num, S7⟩
                case measure => simp [intOf]; omega
              · have d1 : decide (0 ≤ fd) = false := decide_eq_false c1'
                go_wp2_with fail
                clear x0 x1 x2 x3 x4 x5 xz
                refine (HHk.out _ (by exact S7.ints 2 rfl)).mono ?_
                rintro e w8 ⟨rfl, hb⟩
                have S8 := S7.below hb
                clear S7 hb
                obtain ⟨x0, x1, x2, x3, x4, x5, xz⟩ := facts3 (S8.cells 1 rfl)
                by_cases c2' : ho = (s : Int)
                · subst c2'
                  cases c3' : decide ((k : Int) ∈ T.zs)
                  · have hve := HEk.out rfl (of_decide_eq_false c3')
                    subst hve
                    rw [c3'] at HOk
                    go_wp2_with (first | (go_at_call 11; refine (HOk.out _ (by exact S8.ints 2 rfl)).mono ?_; rintro e w' ⟨rfl, rfl⟩))
                    refine (HVk.out _ (by exact S8.ints 2 rfl)).mono ?_
                    rintro e w9 ⟨rfl, hb⟩
                    have S9 := S8.below hb
                    go_wp2_with fail
                    go_roundw
                    case rel => exact ⟨k + 1, by omega, by go_num, S9⟩
                    case measure => simp [intOf]; omega
                  · rw [c3'] at HOk
                    go_wp2_with (first | (go_at_call 11; refine (HOk.out _ (by exact S8.ints 2 rfl)).mono ?_; rintro e w' ⟨rfl, rfl⟩))
                    go_roundw
                    case rel => exact ⟨k + 1, by omega, by go_num, S8⟩
                    case measure => simp [intOf]; omega
                · have d2 : (ho == (s : Int)) = false := beq_eq_false_iff_ne.2 c2'
                  go_wp2_with fail
                  go_roundw
                  case rel => exact ⟨k + 1, by omega, by go_num, S8⟩
                  case measure => simp [intOf]; omega
            · obtain rfl : k = 100 := by omega
              go_wp2_with fail
              go_ret
              exact ⟨rfl, Sr.old⟩

  · have t1 : decide (1048576 < (ys.length : Int)) = true := by simp; omega
    go_enter Tryd.func3, Tryd.ntmps3
    go_wp2_with fail
    go_ret
    exact ⟨rfl, S0.old⟩

end Go.Proofs.YtpncpeokdcolpaaDoor

/-
  The law FnMoreMisses: the walk.
-/
import Derived.Test.YtpncpeokdcolpaaGreatDoorDrawn
import Derived.Test.YtpncpeokdcolpaaGreatDoorDraw12Z
import Derived.Test.YtpncpeokdcolpaaGreatDoorPut
import Derived.Test.YtpncpeokdcolpaaGreatDoorFindI
import Derived.Test.YtpncpeokdcolpaaGreatDoorLoad
import Derived.Test.YtpncpeokdcolpaaGreatDoorVisits
import Derived.Test.YtpncpeokdcolpaaGreatDoorHitI
import Derived.Test.YtpncpeokdcolpaaGreatDoorCostV
import Derived.Test.YtpncpeokdcolpaaGreatDoorFairAll
import Derived.Test.YtpncpeokdcolpaaGreatDoorMath
namespace Go.Proofs.YtpncpeokdcolpaaGreatDoor
open Go.RowKit

theorem putT_len17 (T : Tab) (key : Int) (h : T.zs.length ≤ 17) : (putT T key).zs.length ≤ 17 := by
  unfold putT
  split
  · rw [putAt_len]; exact h
  · simp

set_option maxRecDepth 100000 in
set_option maxHeartbeats 16000000 in
theorem walkFnMoreMisses (w : World) (a : Option Addr) (len cap : Nat) (zs : List Int) (h : IsRow .u8 w a len cap zs) (hL : Laid w) :
    Calls Tryz.prog 5 #[.slice a len cap] w fun e w' => e = .returned (.bool true) ∧ Below w.heap.size w w' := by
  obtain ⟨ys, rfl, hC, S0⟩ := came_of h
  clear h
  by_cases hs : ys.length ≤ 1048576
  · have t1 : decide (1048576 < (ys.length : Int)) = false := by simp; omega
    go_enter Tryz.func5, Tryz.ntmps5
    go_wp2_with fail
    refine (DrawPutVisits_any (by exact S0) hC).mono ?_
    rintro e w1 ⟨T, a1, c1, lo, hi, key, rfl, hT, ⟨k1, k2⟩, hlo, S1⟩
    obtain ⟨n1, n2⟩ := hT.len
    have hul := putT_len17 T key n2
    have HU := Lib.hid fun (W : World) (h : IntsAt W a1 T.zs) => PutKey_any T a1 c1 key W (by omega) h
    have HW := Lib.hid fun (W : World) (h : IntsAt W a1 T.zs) => specPutKey_any T a1 c1 key W (by omega) h
    have hms := fun (h : putOk T key = true) => more_says h
    generalize putT T key = U at hul HU HW hms
    have S2 := S1.alloc #[.int .i64 T.t, .int .i64 T.p, .slice a1 T.zs.length c1] 27
    go_wp2_with fail
    refine (HU.out _ (by exact S2.ints 1 rfl)).mono ?_
    rintro e w2 ⟨a2, c2, rfl, ho, hb⟩
    have S3 : ∃ l2 h2, St w w2 [It.own l2 h2 a2 U.zs, It.box w1.heap.size #[.int .i64 T.t, .int .i64 T.p, .slice a1 T.zs.length c1] 27, It.own lo hi a1 T.zs] := ⟨_, _, (S2.below hb).own ho⟩
    obtain ⟨lU, hU, S3⟩ := S3
    clear S1 S2 ho hb
    obtain ⟨x0, x1, x2, x3, x4, x5, xz⟩ := facts3 (S3.cells 1 rfl)
    have S4 := S3.alloc #[.int .i64 U.t, .int .i64 U.p, .slice a2 U.zs.length c2] 27
    clear S3
    go_wp2_with fail
    clear x0 x1 x2 x3 x4 x5 xz
    refine (HW.out _ (by exact S4.ints 3 rfl)).mono ?_
    rintro e w3 ⟨a3, c3, rfl, ho, hb⟩
    have S5 := ((S4.below hb).alloc #[.int .i64 U.t, .int .i64 U.p, .slice a3 U.zs.length c3] 27).turn (l' := [It.box w2.heap.size #[.int .i64 U.t, .int .i64 U.p, .slice a2 U.zs.length c2] 27, It.own lU hU a2 U.zs, It.box w1.heap.size #[.int .i64 T.t, .int .i64 T.p, .slice a1 T.zs.length c1] 27, It.own lo hi a1 T.zs]) fun i hi => List.mem_cons_of_mem _ hi
    clear S4 ho hb
    cases ok : putOk T key
    · go_wp2_with fail
      go_ret
      exact ⟨rfl, S5.old⟩
    · obtain ⟨k, M⟩ := hms ok
      have HML := Lib.hid M.len
      have HMA := Lib.hid fun (i : Nat) (hi : i < T.zs.length) => M.at_ hi
      have hkl := M.lt
      have HMH := Lib.hid M.hits
      have HMX := Lib.hid M.all
      have HFK := fun (W : World) (h : IntsAt W a2 U.zs) (hl : Laid W) => FindKey_any U a2 c2 key W (by omega) h hl
      rw [M.find] at HFK
      have HFK := Lib.hid HFK
      clear M hms ok
      obtain ⟨x0, x1, x2, x3, x4, x5, xz⟩ := facts3 (S5.cells 0 rfl)
      obtain ⟨y0, y1, y2, y3, y4, y5, yz⟩ := facts3 (S5.cells 2 rfl)
      go_wp2_with fail
      refine (HFK.out _ (by exact S5.ints 1 rfl) (hL.below S5.old hL.pos)).mono ?_
      rintro e w5 ⟨rfl, hb⟩
      have S6 := S5.below hb
      clear S5 hb x0 x1 x2 x3 x4 x5 xz y0 y1 y2 y3 y4 y5 yz
      have zx : w2.heap.size < w5.heap.size := S6.sz 0 rfl
      have zy : w1.heap.size < w5.heap.size := S6.sz 2 rfl
      obtain ⟨y0, y1, y2, y3, y4, y5, yz⟩ := facts3 (S6.cells 2 rfl)
      go_wp2_with fail
      clear y0 y1 y2 y3 y4 y5 yz
      go_loopw [11, 46] (fun _ i wr => ∃ j : Nat, j ≤ T.zs.length ∧ i = .int .i64 j ∧ w5.heap.size ≤ wr.heap.size ∧ St w wr [It.box w2.heap.size #[.int .i64 U.t, .int .i64 U.p, .slice a2 U.zs.length c2] 27, It.own lU hU a2 U.zs, It.box w1.heap.size #[.int .i64 T.t, .int .i64 T.p, .slice a1 T.zs.length c1] 27, It.own lo hi a1 T.zs]) (fun _ i _ => T.zs.length - (intOf i).toNat)
      case atStart => exact ⟨0, Nat.zero_le _, rfl, Nat.le_refl _, S6⟩
      case round =>
        obtain ⟨j, hj, rfl, hz, Sr⟩ := hrel
        clear S6
        obtain ⟨x0, x1, x2, x3, x4, x5, xz⟩ := facts3 (Sr.cells 0 rfl)
        obtain ⟨y0, y1, y2, y3, y4, y5, yz⟩ := facts3 (Sr.cells 2 rfl)
        have hmix : Tryz.prog.follows .mixedOrders = true := by kernel_rfl
        by_cases hlt : j < T.zs.length
        · have hve := HMA.out j hlt
          have HMU := Lib.hid fun (W : World) h => MissAt_any U a2 c2 (j : Int) W (by omega) h
          have HMT := Lib.hid fun (W : World) h => MissAt_any T a1 c1 (j : Int) W (by omega) h
          generalize missI U (j : Int) = mu at hve HMU
          generalize missI T (j : Int) = mt at hve HMT
          have d1 : decide (mu < mt) = false := decide_eq_false (by omega)
          go_wp2_with fail
          refine (wpIn_wide (n := 9)).1 ?_
          refine wpIn_region_quietR (fun w' => Below wr.heap.size wr w') hmix (by kernel_rfl) (by kernel_rfl) ((Below.refl _ _).drew) ?_
          refine wpQuietIn_step (fun _ _ _ _ => trivial) (fun K hK => ?_)
          go_simp
          refine ⟨tabV U a2 c2, fun w' hb => ?_, hK _ ?_⟩
          · have q0 := (hb.cell (p := ⟨w2.heap.size, 0, none⟩) (by show w2.heap.size < _; omega)).trans x0
            have q1 := (hb.cell (p := ⟨w2.heap.size, 1, none⟩) (by show w2.heap.size < _; omega)).trans x1
            have q2 := (hb.cell (p := ⟨w2.heap.size, 2, none⟩) (by show w2.heap.size < _; omega)).trans x2
            unfold tabV
            go_simp
          clear hK K
          refine wpQuietIn_step (fun _ _ _ _ => trivial) (fun K hK => ?_)
          go_simp
          refine ⟨_, fun w' hb => rfl, hK _ ?_⟩
          clear hK K
          refine wpQuietIn_step (fun _ _ _ _ => trivial) (fun K hK => ?_)
          go_simp
          refine ⟨.int .i64 mu, fun w' hb => (callsIn_wide.2 (HMU.out w' (by exact (Sr.below hb).ints 1 rfl))).mono ?_, hK _ ?_⟩
          · rintro e w20 ⟨rfl, hb6⟩
            exact ⟨rfl, hb.trans (hb6.mono hb.size)⟩
          clear hK K
          refine wpQuietIn_step (fun _ _ _ _ => trivial) (fun K hK => ?_)
          go_simp
          refine ⟨tabV T a1 c1, fun w' hb => ?_, hK _ ?_⟩
          · have q0 := (hb.cell (p := ⟨w1.heap.size, 0, none⟩) (by show w1.heap.size < _; omega)).trans y0
            have q1 := (hb.cell (p := ⟨w1.heap.size, 1, none⟩) (by show w1.heap.size < _; omega)).trans y1
            have q2 := (hb.cell (p := ⟨w1.heap.size, 2, none⟩) (by show w1.heap.size < _; omega)).trans y2
            unfold tabV
            go_simp
          clear hK K
          refine wpQuietIn_step (fun _ _ _ _ => trivial) (fun K hK => ?_)
          go_simp
          refine ⟨_, fun w' hb => rfl, hK _ ?_⟩
          clear hK K
          refine wpQuietIn_step (fun _ _ _ _ => trivial) (fun K hK => ?_)
          go_simp
          refine ⟨.int .i64 mt, fun w' hb => (callsIn_wide.2 (HMT.out w' (by exact (Sr.below hb).ints 3 rfl))).mono ?_, hK _ ?_⟩
          · rintro e w20 ⟨rfl, hb6⟩
            exact ⟨rfl, hb.trans (hb6.mono hb.size)⟩
          clear hK K
          refine wpQuietIn_step (fun _ _ _ _ => trivial) (fun K hK => ?_)
          go_simp
          refine ⟨_, fun w' hb => rfl, hK _ ?_⟩
          clear hK K
          refine fun w10 hb => ?_
          have S9 := Sr.below hb
          have hz9 := Nat.le_trans hz hb.size
          clear x0 x1 x2 x3 x4 x5 xz y0 y1 y2 y3 y4 y5 yz
          go_wp2_with fail
          go_roundw
          case rel => exact ⟨j + 1, by omega, by go_num, hz9, S9⟩
          case measure => simp [intOf]; omega
        · obtain rfl : j = T.zs.length := by omega
          obtain ⟨b0, o0, z, rfl, q, Z⟩ := (Sr.ints 3 rfl).at hkl
          have zb : b0 < wr.heap.size := World.block_lt_of_cell? wr _ q
          have HHU := Lib.hid fun (W : World) h => HitVisits_any U a2 c2 W (by omega) h
          have HHT := Lib.hid fun (W : World) h => HitVisits_any T (some ⟨b0, o0, none⟩) c1 W (by omega) h
          have HVU := Lib.hid fun (W : World) h => VisitsFor_any U a2 c2 key W (by omega) h
          have HAU := Lib.hid fun (W : World) h => MissVisits_any U a2 c2 W (by omega) h
          have HAT := Lib.hid fun (W : World) h => MissVisits_any T (some ⟨b0, o0, none⟩) c1 W (by omega) h
          have hx := HMX.out
          rw [Z.out] at hx
          have hh := HMH.out
          have hb1 := hitI_bounds T
          have hb2 := visOf_range U key
          generalize hitI U = hu at HHU hh
          generalize hitI T = ht at HHT hh hb1
          generalize visOf U key = vu at HVU hh hb2
          generalize missAll U = au at HAU hx
          generalize missAll T = at' at HAT hx
          have hw : IntKind.i64.wrap (ht + vu) = hu := by rw [hh]; exact IntWalk.i64_in _ ⟨by omega, by omega⟩
          have k0 : (0 : Int) ≤ (k : Int) := by omega
          have k1 : (k : Int) < (T.zs.length : Int) := by omega
          clear hh HMX HMH HMA
          cases he : ((z == -2) == (au == at'))
          · have hn1 : T.zs.length = 1 := by
              rcases hx with hx | hx
              · exact hx
              · rw [hx] at he; simp at he
            have dn : ((T.zs.length : Int) == 1) = true := by rw [hn1]; rfl
            clear hn1 hx
            go_wp2_with fail
            refine (wpIn_wide (n := 9)).1 ?_
            refine wpIn_region_quietR (fun w' => Below wr.heap.size wr w') hmix (by kernel_rfl) (by kernel_rfl) ((Below.refl _ _).drew) ?_
            refine wpQuietIn_step (fun _ _ _ _ => trivial) (fun K hK => ?_)
            go_simp
            refine ⟨tabV U a2 c2, fun w' hb => ?_, hK _ ?_⟩
            · have q0 := (hb.cell (p := ⟨w2.heap.size, 0, none⟩) (by show w2.heap.size < _; omega)).trans x0
              have q1 := (hb.cell (p := ⟨w2.heap.size, 1, none⟩) (by show w2.heap.size < _; omega)).trans x1
              have q2 := (hb.cell (p := ⟨w2.heap.size, 2, none⟩) (by show w2.heap.size < _; omega)).trans x2
              unfold tabV
              go_simp
            clear hK K
            refine wpQuietIn_step (fun _ _ _ _ => trivial) (fun K hK => ?_)
            go_simp
            refine ⟨.int .i64 hu, fun w' hb => (callsIn_wide.2 (HHU.out w' (by exact (Sr.below hb).ints 1 rfl))).mono ?_, hK _ ?_⟩
            · rintro e w20 ⟨rfl, hb6⟩
              exact ⟨rfl, hb.trans (hb6.mono hb.size)⟩
            clear hK K
            refine wpQuietIn_step (fun _ _ _ _ => trivial) (fun K hK => ?_)
            go_simp
            refine ⟨tabV T (some ⟨b0, o0, none⟩) c1, fun w' hb => ?_, hK _ ?_⟩
            · have q0 := (hb.cell (p := ⟨w1.heap.size, 0, none⟩) (by show w1.heap.size < _; omega)).trans y0
              have q1 := (hb.cell (p := ⟨w1.heap.size, 1, none⟩) (by show w1.heap.size < _; omega)).trans y1
              have q2 := (hb.cell (p := ⟨w1.heap.size, 2, none⟩) (by show w1.heap.size < _; omega)).trans y2
              unfold tabV
              go_simp
            clear hK K
            refine wpQuietIn_step (fun _ _ _ _ => trivial) (fun K hK => ?_)
            go_simp
            refine ⟨.int .i64 ht, fun w' hb => (callsIn_wide.2 (HHT.out w' (by exact (Sr.below hb).ints 3 rfl))).mono ?_, hK _ ?_⟩
            · rintro e w20 ⟨rfl, hb6⟩
              exact ⟨rfl, hb.trans (hb6.mono hb.size)⟩
            clear hK K
            refine wpQuietIn_step (fun _ _ _ _ => trivial) (fun K hK => ?_)
            go_simp
            refine ⟨tabV U a2 c2, fun w' hb => ?_, hK _ ?_⟩
            · have q0 := (hb.cell (p := ⟨w2.heap.size, 0, none⟩) (by show w2.heap.size < _; omega)).trans x0
              have q1 := (hb.cell (p := ⟨w2.heap.size, 1, none⟩) (by show w2.heap.size < _; omega)).trans x1
              have q2 := (hb.cell (p := ⟨w2.heap.size, 2, none⟩) (by show w2.heap.size < _; omega)).trans x2
              unfold tabV
              go_simp
            clear hK K
            refine wpQuietIn_step (fun _ _ _ _ => trivial) (fun K hK => ?_)
            go_simp
            refine ⟨_, fun w' hb => rfl, hK _ ?_⟩
            clear hK K
            refine wpQuietIn_step (fun _ _ _ _ => trivial) (fun K hK => ?_)
            go_simp
            refine ⟨.int .i64 vu, fun w' hb => (callsIn_wide.2 (HVU.out w' (by exact (Sr.below hb).ints 1 rfl))).mono ?_, hK _ ?_⟩
            · rintro e w20 ⟨rfl, hb6⟩
              exact ⟨rfl, hb.trans (hb6.mono hb.size)⟩
            clear hK K
            refine wpQuietIn_step (fun _ _ _ _ => trivial) (fun K hK => ?_)
            go_simp
            refine ⟨_, fun w' hb => rfl, hK _ ?_⟩
            clear hK K
            refine wpQuietIn_step (fun _ _ _ _ => trivial) (fun K hK => ?_)
            go_simp
            refine ⟨_, fun w' hb => rfl, hK _ ?_⟩
            clear hK K
            refine wpQuietIn_step (fun _ _ _ _ => trivial) (fun K hK => ?_)
            go_simp
            refine ⟨_, fun w' hb => rfl, hK _ ?_⟩
            clear hK K
            refine wpQuietIn_step (fun _ _ _ _ => trivial) (fun K hK => ?_)
            go_simp
            refine ⟨_, fun w' hb => rfl, hK _ ?_⟩
            clear hK K
            refine wpQuietIn_step (fun _ _ _ _ => trivial) (fun K hK => ?_)
            go_simp
            refine ⟨.slice (some ⟨b0, o0, none⟩) T.zs.length c1, fun w' hb => ?_, hK _ ?_⟩
            · have q2 := (hb.cell (p := ⟨w1.heap.size, 2, none⟩) (by show w1.heap.size < _; omega)).trans y2
              go_simp
            clear hK K
            refine wpQuietIn_step (fun _ _ _ _ => trivial) (fun K hK => ?_)
            go_simp
            refine ⟨_, fun w' hb => rfl, hK _ ?_⟩
            clear hK K
            refine wpQuietIn_step (fun _ _ _ _ => trivial) (fun K hK => ?_)
            go_simp
            refine ⟨_, fun w' hb => rfl, hK _ ?_⟩
            clear hK K
            refine wpQuietIn_step (fun _ _ _ _ => trivial) (fun K hK => ?_)
            go_simp
            refine ⟨.int .i64 z, fun w' hb => ?_, hK _ ?_⟩
            · have qq := (hb.cell (p := ⟨b0, o0 + k, none⟩) (by show b0 < _; omega)).trans q
              go_simp
            clear hK K
            refine wpQuietIn_step (fun _ _ _ _ => trivial) (fun K hK => ?_)
            go_simp
            refine ⟨_, fun w' hb => rfl, hK _ ?_⟩
            clear hK K
            refine wpQuietIn_step (fun _ _ _ _ => trivial) (fun K hK => ?_)
            go_simp
            refine ⟨tabV U a2 c2, fun w' hb => ?_, hK _ ?_⟩
            · have q0 := (hb.cell (p := ⟨w2.heap.size, 0, none⟩) (by show w2.heap.size < _; omega)).trans x0
              have q1 := (hb.cell (p := ⟨w2.heap.size, 1, none⟩) (by show w2.heap.size < _; omega)).trans x1
              have q2 := (hb.cell (p := ⟨w2.heap.size, 2, none⟩) (by show w2.heap.size < _; omega)).trans x2
              unfold tabV
              go_simp
            clear hK K
            refine wpQuietIn_step (fun _ _ _ _ => trivial) (fun K hK => ?_)
            go_simp
            refine ⟨.int .i64 au, fun w' hb => (callsIn_wide.2 (HAU.out w' (by exact (Sr.below hb).ints 1 rfl))).mono ?_, hK _ ?_⟩
            · rintro e w20 ⟨rfl, hb6⟩
              exact ⟨rfl, hb.trans (hb6.mono hb.size)⟩
            clear hK K
            refine wpQuietIn_step (fun _ _ _ _ => trivial) (fun K hK => ?_)
            go_simp
            refine ⟨tabV T (some ⟨b0, o0, none⟩) c1, fun w' hb => ?_, hK _ ?_⟩
            · have q0 := (hb.cell (p := ⟨w1.heap.size, 0, none⟩) (by show w1.heap.size < _; omega)).trans y0
              have q1 := (hb.cell (p := ⟨w1.heap.size, 1, none⟩) (by show w1.heap.size < _; omega)).trans y1
              have q2 := (hb.cell (p := ⟨w1.heap.size, 2, none⟩) (by show w1.heap.size < _; omega)).trans y2
              unfold tabV
              go_simp
            clear hK K
            refine wpQuietIn_step (fun _ _ _ _ => trivial) (fun K hK => ?_)
            go_simp
            refine ⟨.int .i64 at', fun w' hb => (callsIn_wide.2 (HAT.out w' (by exact (Sr.below hb).ints 3 rfl))).mono ?_, hK _ ?_⟩
            · rintro e w20 ⟨rfl, hb6⟩
              exact ⟨rfl, hb.trans (hb6.mono hb.size)⟩
            clear hK K
            refine wpQuietIn_step (fun _ _ _ _ => trivial) (fun K hK => ?_)
            go_simp
            refine ⟨_, fun w' hb => rfl, hK _ ?_⟩
            clear hK K
            refine wpQuietIn_step (fun _ _ _ _ => trivial) (fun K hK => ?_)
            go_simp
            refine ⟨_, fun w' hb => rfl, hK _ ?_⟩
            clear hK K
            refine wpQuietIn_step (fun _ _ _ _ => trivial) (fun K hK => ?_)
            go_simp
            refine ⟨_, fun w' hb => rfl, hK _ ?_⟩
            clear hK K
            refine wpQuietIn_step (fun _ _ _ _ => trivial) (fun K hK => ?_)
            go_simp
            refine ⟨_, fun w' hb => rfl, hK _ ?_⟩
            clear hK K
            refine wpQuietIn_step (fun _ _ _ _ => trivial) (fun K hK => ?_)
            go_simp
            refine ⟨_, fun w' hb => rfl, hK _ ?_⟩
            clear hK K
            refine wpQuietIn_step (fun _ _ _ _ => trivial) (fun K hK => ?_)
            go_simp
            refine ⟨.slice (some ⟨b0, o0, none⟩) T.zs.length c1, fun w' hb => ?_, hK _ ?_⟩
            · have q2 := (hb.cell (p := ⟨w1.heap.size, 2, none⟩) (by show w1.heap.size < _; omega)).trans y2
              go_simp
            clear hK K
            refine wpQuietIn_step (fun _ _ _ _ => trivial) (fun K hK => ?_)
            go_simp
            refine ⟨_, fun w' hb => rfl, hK _ ?_⟩
            clear hK K
            refine wpQuietIn_step (fun _ _ _ _ => trivial) (fun K hK => ?_)
            go_simp
            refine ⟨_, fun w' hb => rfl, hK _ ?_⟩
            clear hK K
            refine wpQuietIn_step (fun _ _ _ _ => trivial) (fun K hK => ?_)
            go_simp
            refine ⟨_, fun w' hb => rfl, hK _ ?_⟩
            clear hK K
            refine wpQuietIn_step (fun _ _ _ _ => trivial) (fun K hK => ?_)
            go_simp
            refine ⟨_, fun w' hb => rfl, hK _ ?_⟩
            clear hK K
            refine wpQuietIn_step (fun _ _ _ _ => trivial) (fun K hK => ?_)
            go_simp
            refine hK _ ?_
            clear hK K
            refine wpQuietIn_step (fun _ _ _ _ => trivial) (fun K hK => ?_)
            go_simp
            refine hK _ ?_
            clear hK K
            refine wpQuietIn_step (fun _ _ _ _ => trivial) (fun K hK => ?_)
            go_simp
            refine hK _ ?_
            clear hK K
            refine wpQuietIn_step (fun _ _ _ _ => trivial) (fun K hK => ?_)
            go_simp
            refine ⟨_, fun w' hb => rfl, hK _ ?_⟩
            clear hK K
            refine wpQuietIn_step (fun _ _ _ _ => trivial) (fun K hK => ?_)
            go_simp
            refine ⟨_, fun w' hb => rfl, hK _ ?_⟩
            clear hK K
            refine fun w10 hb => ?_
            have S9 := Sr.below hb
            go_wp2_with fail
            go_ret
            exact ⟨rfl, S9.old⟩
          · clear hx
            go_wp2_with fail
            refine (wpIn_wide (n := 9)).1 ?_
            refine wpIn_region_quietR (fun w' => Below wr.heap.size wr w') hmix (by kernel_rfl) (by kernel_rfl) ((Below.refl _ _).drew) ?_
            refine wpQuietIn_step (fun _ _ _ _ => trivial) (fun K hK => ?_)
            go_simp
            refine ⟨tabV U a2 c2, fun w' hb => ?_, hK _ ?_⟩
            · have q0 := (hb.cell (p := ⟨w2.heap.size, 0, none⟩) (by show w2.heap.size < _; omega)).trans x0
              have q1 := (hb.cell (p := ⟨w2.heap.size, 1, none⟩) (by show w2.heap.size < _; omega)).trans x1
              have q2 := (hb.cell (p := ⟨w2.heap.size, 2, none⟩) (by show w2.heap.size < _; omega)).trans x2
              unfold tabV
              go_simp
            clear hK K
            refine wpQuietIn_step (fun _ _ _ _ => trivial) (fun K hK => ?_)
            go_simp
            refine ⟨.int .i64 hu, fun w' hb => (callsIn_wide.2 (HHU.out w' (by exact (Sr.below hb).ints 1 rfl))).mono ?_, hK _ ?_⟩
            · rintro e w20 ⟨rfl, hb6⟩
              exact ⟨rfl, hb.trans (hb6.mono hb.size)⟩
            clear hK K
            refine wpQuietIn_step (fun _ _ _ _ => trivial) (fun K hK => ?_)
            go_simp
            refine ⟨tabV T (some ⟨b0, o0, none⟩) c1, fun w' hb => ?_, hK _ ?_⟩
            · have q0 := (hb.cell (p := ⟨w1.heap.size, 0, none⟩) (by show w1.heap.size < _; omega)).trans y0
              have q1 := (hb.cell (p := ⟨w1.heap.size, 1, none⟩) (by show w1.heap.size < _; omega)).trans y1
              have q2 := (hb.cell (p := ⟨w1.heap.size, 2, none⟩) (by show w1.heap.size < _; omega)).trans y2
              unfold tabV
              go_simp
            clear hK K
            refine wpQuietIn_step (fun _ _ _ _ => trivial) (fun K hK => ?_)
            go_simp
            refine ⟨.int .i64 ht, fun w' hb => (callsIn_wide.2 (HHT.out w' (by exact (Sr.below hb).ints 3 rfl))).mono ?_, hK _ ?_⟩
            · rintro e w20 ⟨rfl, hb6⟩
              exact ⟨rfl, hb.trans (hb6.mono hb.size)⟩
            clear hK K
            refine wpQuietIn_step (fun _ _ _ _ => trivial) (fun K hK => ?_)
            go_simp
            refine ⟨tabV U a2 c2, fun w' hb => ?_, hK _ ?_⟩
            · have q0 := (hb.cell (p := ⟨w2.heap.size, 0, none⟩) (by show w2.heap.size < _; omega)).trans x0
              have q1 := (hb.cell (p := ⟨w2.heap.size, 1, none⟩) (by show w2.heap.size < _; omega)).trans x1
              have q2 := (hb.cell (p := ⟨w2.heap.size, 2, none⟩) (by show w2.heap.size < _; omega)).trans x2
              unfold tabV
              go_simp
            clear hK K
            refine wpQuietIn_step (fun _ _ _ _ => trivial) (fun K hK => ?_)
            go_simp
            refine ⟨_, fun w' hb => rfl, hK _ ?_⟩
            clear hK K
            refine wpQuietIn_step (fun _ _ _ _ => trivial) (fun K hK => ?_)
            go_simp
            refine ⟨.int .i64 vu, fun w' hb => (callsIn_wide.2 (HVU.out w' (by exact (Sr.below hb).ints 1 rfl))).mono ?_, hK _ ?_⟩
            · rintro e w20 ⟨rfl, hb6⟩
              exact ⟨rfl, hb.trans (hb6.mono hb.size)⟩
            clear hK K
            refine wpQuietIn_step (fun _ _ _ _ => trivial) (fun K hK => ?_)
            go_simp
            refine ⟨_, fun w' hb => rfl, hK _ ?_⟩
            clear hK K
            refine wpQuietIn_step (fun _ _ _ _ => trivial) (fun K hK => ?_)
            go_simp
            refine ⟨_, fun w' hb => rfl, hK _ ?_⟩
            clear hK K
            refine wpQuietIn_step (fun _ _ _ _ => trivial) (fun K hK => ?_)
            go_simp
            refine ⟨_, fun w' hb => rfl, hK _ ?_⟩
            clear hK K
            refine wpQuietIn_step (fun _ _ _ _ => trivial) (fun K hK => ?_)
            go_simp
            refine ⟨_, fun w' hb => rfl, hK _ ?_⟩
            clear hK K
            refine wpQuietIn_step (fun _ _ _ _ => trivial) (fun K hK => ?_)
            go_simp
            refine ⟨.slice (some ⟨b0, o0, none⟩) T.zs.length c1, fun w' hb => ?_, hK _ ?_⟩
            · have q2 := (hb.cell (p := ⟨w1.heap.size, 2, none⟩) (by show w1.heap.size < _; omega)).trans y2
              go_simp
            clear hK K
            refine wpQuietIn_step (fun _ _ _ _ => trivial) (fun K hK => ?_)
            go_simp
            refine ⟨_, fun w' hb => rfl, hK _ ?_⟩
            clear hK K
            refine wpQuietIn_step (fun _ _ _ _ => trivial) (fun K hK => ?_)
            go_simp
            refine ⟨_, fun w' hb => rfl, hK _ ?_⟩
            clear hK K
            refine wpQuietIn_step (fun _ _ _ _ => trivial) (fun K hK => ?_)
            go_simp
            refine ⟨.int .i64 z, fun w' hb => ?_, hK _ ?_⟩
            · have qq := (hb.cell (p := ⟨b0, o0 + k, none⟩) (by show b0 < _; omega)).trans q
              go_simp
            clear hK K
            refine wpQuietIn_step (fun _ _ _ _ => trivial) (fun K hK => ?_)
            go_simp
            refine ⟨_, fun w' hb => rfl, hK _ ?_⟩
            clear hK K
            refine wpQuietIn_step (fun _ _ _ _ => trivial) (fun K hK => ?_)
            go_simp
            refine ⟨tabV U a2 c2, fun w' hb => ?_, hK _ ?_⟩
            · have q0 := (hb.cell (p := ⟨w2.heap.size, 0, none⟩) (by show w2.heap.size < _; omega)).trans x0
              have q1 := (hb.cell (p := ⟨w2.heap.size, 1, none⟩) (by show w2.heap.size < _; omega)).trans x1
              have q2 := (hb.cell (p := ⟨w2.heap.size, 2, none⟩) (by show w2.heap.size < _; omega)).trans x2
              unfold tabV
              go_simp
            clear hK K
            refine wpQuietIn_step (fun _ _ _ _ => trivial) (fun K hK => ?_)
            go_simp
            refine ⟨.int .i64 au, fun w' hb => (callsIn_wide.2 (HAU.out w' (by exact (Sr.below hb).ints 1 rfl))).mono ?_, hK _ ?_⟩
            · rintro e w20 ⟨rfl, hb6⟩
              exact ⟨rfl, hb.trans (hb6.mono hb.size)⟩
            clear hK K
            refine wpQuietIn_step (fun _ _ _ _ => trivial) (fun K hK => ?_)
            go_simp
            refine ⟨tabV T (some ⟨b0, o0, none⟩) c1, fun w' hb => ?_, hK _ ?_⟩
            · have q0 := (hb.cell (p := ⟨w1.heap.size, 0, none⟩) (by show w1.heap.size < _; omega)).trans y0
              have q1 := (hb.cell (p := ⟨w1.heap.size, 1, none⟩) (by show w1.heap.size < _; omega)).trans y1
              have q2 := (hb.cell (p := ⟨w1.heap.size, 2, none⟩) (by show w1.heap.size < _; omega)).trans y2
              unfold tabV
              go_simp
            clear hK K
            refine wpQuietIn_step (fun _ _ _ _ => trivial) (fun K hK => ?_)
            go_simp
            refine ⟨.int .i64 at', fun w' hb => (callsIn_wide.2 (HAT.out w' (by exact (Sr.below hb).ints 3 rfl))).mono ?_, hK _ ?_⟩
            · rintro e w20 ⟨rfl, hb6⟩
              exact ⟨rfl, hb.trans (hb6.mono hb.size)⟩
            clear hK K
            refine wpQuietIn_step (fun _ _ _ _ => trivial) (fun K hK => ?_)
            go_simp
            refine ⟨_, fun w' hb => rfl, hK _ ?_⟩
            clear hK K
            refine wpQuietIn_step (fun _ _ _ _ => trivial) (fun K hK => ?_)
            go_simp
            refine ⟨_, fun w' hb => rfl, hK _ ?_⟩
            clear hK K
            refine wpQuietIn_step (fun _ _ _ _ => trivial) (fun K hK => ?_)
            go_simp
            refine ⟨_, fun w' hb => rfl, hK _ ?_⟩
            clear hK K
            refine wpQuietIn_step (fun _ _ _ _ => trivial) (fun K hK => ?_)
            go_simp
            refine ⟨_, fun w' hb => rfl, hK _ ?_⟩
            clear hK K
            refine wpQuietIn_step (fun _ _ _ _ => trivial) (fun K hK => ?_)
            go_simp
            refine hK _ ?_
            clear hK K
            refine wpQuietIn_step (fun _ _ _ _ => trivial) (fun K hK => ?_)
            go_simp
            refine hK _ ?_
            clear hK K
            refine wpQuietIn_step (fun _ _ _ _ => trivial) (fun K hK => ?_)
            go_simp
            refine hK _ ?_
            clear hK K
            refine wpQuietIn_step (fun _ _ _ _ => trivial) (fun K hK => ?_)
            go_simp
            refine hK _ ?_
            clear hK K
            refine wpQuietIn_step (fun _ _ _ _ => trivial) (fun K hK => ?_)
            go_simp
            refine ⟨_, fun w' hb => rfl, hK _ ?_⟩
            clear hK K
            refine wpQuietIn_step (fun _ _ _ _ => trivial) (fun K hK => ?_)
            go_simp
            refine ⟨_, fun w' hb => rfl, hK _ ?_⟩
            clear hK K
            refine wpQuietIn_step (fun _ _ _ _ => trivial) (fun K hK => ?_)
            go_simp
            refine hK _ ?_
            clear hK K
            refine wpQuietIn_step (fun _ _ _ _ => trivial) (fun K hK => ?_)
            go_simp
            refine hK _ ?_
            clear hK K
            refine wpQuietIn_step (fun _ _ _ _ => trivial) (fun K hK => ?_)
            go_simp
            refine hK _ ?_
            clear hK K
            refine wpQuietIn_step (fun _ _ _ _ => trivial) (fun K hK => ?_)
            go_simp
            refine ⟨_, fun w' hb => rfl, hK _ ?_⟩
            clear hK K
            refine wpQuietIn_step (fun _ _ _ _ => trivial) (fun K hK => ?_)
            go_simp
            refine ⟨_, fun w' hb => rfl, hK _ ?_⟩
            clear hK K
            refine fun w10 hb => ?_
            have S9 := Sr.below hb
            go_wp2_with fail
            go_ret
            exact ⟨rfl, S9.old⟩
  · have t1 : decide (1048576 < (ys.length : Int)) = true := by simp; omega
    go_enter Tryz.func5, Tryz.ntmps5
    go_wp2_with fail
    go_ret
    exact ⟨rfl, S0.old⟩

end Go.Proofs.YtpncpeokdcolpaaGreatDoor

/-
  The law FnShiftClean: the walk.
-/
import Derived.Test.YtpncpeokdcolpaaGreatDoorDrawn
import Derived.Test.YtpncpeokdcolpaaGreatDoorDraw5D
import Derived.Test.YtpncpeokdcolpaaGreatDoorDropI
import Derived.Test.YtpncpeokdcolpaaGreatDoorShiftI
import Derived.Test.YtpncpeokdcolpaaGreatDoorShiftS
import Derived.Test.YtpncpeokdcolpaaGreatDoorVisits
import Derived.Test.YtpncpeokdcolpaaGreatDoorKeys
import Derived.Test.YtpncpeokdcolpaaGreatDoorCostA
import Derived.Test.YtpncpeokdcolpaaGreatDoorFairAll
import Derived.Test.YtpncpeokdcolpaaGreatDoorMath
namespace Go.Proofs.YtpncpeokdcolpaaGreatDoor
open Go.RowKit

theorem dropT_len' (T : Tab) (key : Int) (h : T.zs.length ≤ 17) : (dropT T key).zs.length ≤ 17 := by
  unfold dropT
  split
  · show (dropL [key] T.zs).length ≤ 17
    rw [dropL_len]; exact h
  · simp

set_option maxRecDepth 100000 in
set_option maxHeartbeats 8000000 in
theorem walkFnShiftClean (w : World) (a : Option Addr) (len cap : Nat) (zs : List Int) (h : IsRow .u8 w a len cap zs) (hL : Laid w) :
    Calls Tryz.prog 7 #[.slice a len cap] w fun e w' => e = .returned (.bool true) ∧ Below w.heap.size w w' := by
  obtain ⟨ys, rfl, hC, S0⟩ := came_of h
  clear h
  by_cases hs : ys.length ≤ 1048576
  · have t1 : decide (1048576 < (ys.length : Int)) = false := by simp; omega
    go_enter Tryz.func7, Tryz.ntmps7
    go_wp2_with fail
    refine (DrawMovesBy_any (by exact S0) hC).mono ?_
    rintro e w1 ⟨T, a1, c1, lo, hi, key, rfl, hT, ⟨k1, k2⟩, hlo, S1⟩
    obtain ⟨n1, n2⟩ := hT.len
    have hxl := shiftT_len T key
    have hyl := dropT_len' T key n2
    have HD := Lib.hid fun (W : World) (h : IntsAt W a1 T.zs) (hl : Laid W) => DropShift_any T a1 c1 key W (by omega) h hl
    have HS := Lib.hid fun (W : World) (h : IntsAt W a1 T.zs) => specDropShift_any T a1 c1 key W (by omega) h
    have HK := Lib.hid fun (W : World) (h : IntsAt W a1 T.zs) (hl : Laid W) => DropKey_any T a1 c1 key W (by omega) h hl
    have hcs := fun (h : shiftOk T key = true) => clean_says h
    generalize shiftT T key = X at hxl HD HS hcs
    generalize dropT T key = Y at hyl HK hcs
    have hyo := fun (h : shiftOk T key = true) => (clean_says h).drop
    generalize dropOk T key = yok at HK hyo
    have S2 := S1.alloc #[.int .i64 T.t, .int .i64 T.p, .slice a1 T.zs.length c1] 27
    go_wp2_with fail
    refine (HD.out _ (by exact S2.ints 1 rfl) (hL.below S2.old hL.pos)).mono ?_
    rintro e w2 ⟨a2, c2, rfl, ho, hb⟩
    have S3 : ∃ l2 h2, St w w2 [It.own l2 h2 a2 X.zs, It.box w1.heap.size #[.int .i64 T.t, .int .i64 T.p, .slice a1 T.zs.length c1] 27, It.own lo hi a1 T.zs] := ⟨_, _, (S2.below hb).own ho⟩
    obtain ⟨lX, hX, S3⟩ := S3
    clear S1 S2 ho hb
    obtain ⟨x0, x1, x2, x3, x4, x5, xz⟩ := facts3 (S3.cells 1 rfl)
    have S4 := S3.alloc #[.int .i64 X.t, .int .i64 X.p, .slice a2 X.zs.length c2] 27
    clear S3
    go_wp2_with fail
    clear x0 x1 x2 x3 x4 x5 xz
    refine (HS.out _ (by exact S4.ints 3 rfl)).mono ?_
    rintro e w3 ⟨a3, c3, rfl, ho, hb⟩
    have S5 := (S4.below hb).alloc #[.int .i64 X.t, .int .i64 X.p, .slice a3 X.zs.length c3] 27
    clear S4 ho hb
    obtain ⟨x0, x1, x2, x3, x4, x5, xz⟩ := facts3 (S5.cells 3 rfl)
    cases ok : shiftOk T key
    · go_wp2_with fail
      clear x0 x1 x2 x3 x4 x5 xz
      refine (HK.out _ (by exact S5.ints 4 rfl) (hL.below S5.old hL.pos)).mono ?_
      rintro e w4 ⟨a4, c4, rfl, ho, hb⟩
      have S6 := S5.below hb
      go_wp2_with fail
      go_ret
      exact ⟨rfl, (S6.alloc _ _).old⟩
    · have C := hcs ok
      have hyok : yok = true := hyo ok
      subst hyok
      have lX1 := Lib.hid C.len
      have lY1 := Lib.hid C.lenY
      have lT2 := C.top
      have hkl := C.keys
      have HVis := Lib.hid C.vis
      have HMiss := Lib.hid C.miss
      have HKI := Lib.hid fun (W : World) h => KeysIn_any X a2 c2 W (by omega) h
      unfold keysOf at HKI
      clear C hcs ok
      generalize (if validB X then sortU X.zs else []) = ks at HKI hkl HVis
      generalize validB X = xok at HKI
      go_wp2_with fail
      clear x0 x1 x2 x3 x4 x5 xz
      refine (HK.out _ (by exact S5.ints 4 rfl) (hL.below S5.old hL.pos)).mono ?_
      rintro e w4 ⟨a4, c4, rfl, ho, hb⟩
      have S6 : ∃ l2 h2, St w w4 [It.own l2 h2 a4 Y.zs, It.box w2.heap.size #[.int .i64 X.t, .int .i64 X.p, .slice a2 X.zs.length c2] 27, It.own lX hX a2 X.zs] := ⟨_, _, ((S5.below hb).own ho).turn fun i hi => by
        simp only [List.mem_cons, List.not_mem_nil, or_false] at hi ⊢
        rcases hi with h | h | h
        · exact .inl h
        · exact .inr (.inr (.inl h))
        · exact .inr (.inr (.inr (.inl h)))⟩
      obtain ⟨lY, hY, S6⟩ := S6
      clear S5 ho hb
      have S7 := S6.alloc #[.int .i64 Y.t, .int .i64 Y.p, .slice a4 Y.zs.length c4] 27
      clear S6
      obtain ⟨x0, x1, x2, x3, x4, x5, xz⟩ := facts3 (S7.cells 2 rfl)
      go_wp2_with fail
      clear x0 x1 x2 x3 x4 x5 xz
      refine (HKI.out _ (by exact S7.ints 3 rfl)).mono ?_
      rintro e w5 ⟨ak, ck, rfl, ho, hb⟩
      have S8 : ∃ l2 h2, St w w5 [It.own l2 h2 ak ks, It.box w4.heap.size #[.int .i64 Y.t, .int .i64 Y.p, .slice a4 Y.zs.length c4] 27, It.own lY hY a4 Y.zs, It.box w2.heap.size #[.int .i64 X.t, .int .i64 X.p, .slice a2 X.zs.length c2] 27, It.own lX hX a2 X.zs] := ⟨_, _, (S7.below hb).own ho⟩
      obtain ⟨lk, hk, S8⟩ := S8
      clear S7 ho hb
      have zx : w2.heap.size < w5.heap.size := S8.sz 3 rfl
      have zy : w4.heap.size < w5.heap.size := S8.sz 1 rfl
      go_wp2_with fail
      go_loopw [14, 60] (fun _ i wr => ∃ j : Nat, j ≤ ks.length ∧ i = .int .i64 j ∧ w5.heap.size ≤ wr.heap.size ∧ St w wr [It.own lk hk ak ks, It.box w4.heap.size #[.int .i64 Y.t, .int .i64 Y.p, .slice a4 Y.zs.length c4] 27, It.own lY hY a4 Y.zs, It.box w2.heap.size #[.int .i64 X.t, .int .i64 X.p, .slice a2 X.zs.length c2] 27, It.own lX hX a2 X.zs]) (fun _ i _ => ks.length - (intOf i).toNat)
      case atStart => exact ⟨0, Nat.zero_le _, rfl, Nat.le_refl _, S8⟩
      case round =>
        obtain ⟨j, hj, rfl, hz, Sr⟩ := hrel
        clear S8
        obtain ⟨x0, x1, x2, x3, x4, x5, xz⟩ := facts3 (Sr.cells 3 rfl)
        obtain ⟨y0, y1, y2, y3, y4, y5, yz⟩ := facts3 (Sr.cells 1 rfl)
        by_cases hlt : j < ks.length
        · have hve := HVis.out j hlt
          obtain ⟨b, o, k, ea, q, K⟩ := (Sr.ints 0 rfl).at hlt
          subst ea
          rw [K.out] at hve
          have HVX := Lib.hid fun (W : World) h => VisitsFor_any X a2 c2 k W (by omega) h
          have HVY := Lib.hid fun (W : World) h => VisitsFor_any Y a4 c4 k W (by omega) h
          generalize visOf X k = vx at hve HVX
          generalize visOf Y k = vy at hve HVY
          have d1 : decide (vy < vx) = false := decide_eq_false (by omega)
          have hmix : Tryz.prog.follows .mixedOrders = true := by kernel_rfl
          go_wp2_with fail
          refine (wpIn_wide (n := 9)).1 ?_
          refine wpIn_region_quietR (fun w' => Below wr.heap.size wr w') hmix (by kernel_rfl) (by kernel_rfl) ((Below.refl _ _).drew) ?_
          refine wpQuietIn_step (fun _ _ _ _ => trivial) (fun K hK => ?_)
          go_simp
          refine ⟨tabV X a2 c2, fun w' hb => ?_, hK _ ?_⟩
          · have q0 := (hb.cell (p := ⟨w2.heap.size, 0, none⟩) (by show w2.heap.size < _; omega)).trans x0
            have q1 := (hb.cell (p := ⟨w2.heap.size, 1, none⟩) (by show w2.heap.size < _; omega)).trans x1
            have q2 := (hb.cell (p := ⟨w2.heap.size, 2, none⟩) (by show w2.heap.size < _; omega)).trans x2
            unfold tabV
            go_simp
          clear hK K
          refine wpQuietIn_step (fun _ _ _ _ => trivial) (fun K hK => ?_)
          go_simp
          refine ⟨_, fun w' hb => rfl, hK _ ?_⟩
          clear hK K
          refine wpQuietIn_step (fun _ _ _ _ => trivial) (fun K hK => ?_)
          go_simp
          refine ⟨.int .i64 vx, fun w' hb => (callsIn_wide.2 (HVX.out w' (by exact (Sr.below hb).ints 4 rfl))).mono ?_, hK _ ?_⟩
          · rintro e w20 ⟨rfl, hb6⟩
            exact ⟨rfl, hb.trans (hb6.mono hb.size)⟩
          clear hK K
          refine wpQuietIn_step (fun _ _ _ _ => trivial) (fun K hK => ?_)
          go_simp
          refine ⟨tabV Y a4 c4, fun w' hb => ?_, hK _ ?_⟩
          · have q0 := (hb.cell (p := ⟨w4.heap.size, 0, none⟩) (by show w4.heap.size < _; omega)).trans y0
            have q1 := (hb.cell (p := ⟨w4.heap.size, 1, none⟩) (by show w4.heap.size < _; omega)).trans y1
            have q2 := (hb.cell (p := ⟨w4.heap.size, 2, none⟩) (by show w4.heap.size < _; omega)).trans y2
            unfold tabV
            go_simp
          clear hK K
          refine wpQuietIn_step (fun _ _ _ _ => trivial) (fun K hK => ?_)
          go_simp
          refine ⟨_, fun w' hb => rfl, hK _ ?_⟩
          clear hK K
          refine wpQuietIn_step (fun _ _ _ _ => trivial) (fun K hK => ?_)
          go_simp
          refine ⟨.int .i64 vy, fun w' hb => (callsIn_wide.2 (HVY.out w' (by exact (Sr.below hb).ints 2 rfl))).mono ?_, hK _ ?_⟩
          · rintro e w20 ⟨rfl, hb6⟩
            exact ⟨rfl, hb.trans (hb6.mono hb.size)⟩
          clear hK K
          refine wpQuietIn_step (fun _ _ _ _ => trivial) (fun K hK => ?_)
          go_simp
          refine ⟨_, fun w' hb => rfl, hK _ ?_⟩
          clear hK K
          refine fun w10 hb => ?_
          have S9 := Sr.below hb
          have hz9 := Nat.le_trans hz hb.size
          clear x0 x1 x2 x3 x4 x5 xz y0 y1 y2 y3 y4 y5 yz
          go_wp2_with fail
          go_roundw
          case rel => exact ⟨j + 1, by omega, by go_num, hz9, S9⟩
          case measure => simp [intOf]; omega
        · obtain rfl : j = ks.length := by omega
          go_wp2_with fail
          clear x0 x1 x2 x3 x4 x5 xz y0 y1 y2 y3 y4 y5 yz
          go_loopw [15, 75] (fun _ i wr => ∃ j : Nat, j ≤ X.zs.length ∧ i = .int .i64 j ∧ w5.heap.size ≤ wr.heap.size ∧ St w wr [It.own lk hk ak ks, It.box w4.heap.size #[.int .i64 Y.t, .int .i64 Y.p, .slice a4 Y.zs.length c4] 27, It.own lY hY a4 Y.zs, It.box w2.heap.size #[.int .i64 X.t, .int .i64 X.p, .slice a2 X.zs.length c2] 27, It.own lX hX a2 X.zs]) (fun _ i _ => X.zs.length - (intOf i).toNat)
          case atStart => exact ⟨0, Nat.zero_le _, rfl, hz, Sr⟩
          case round =>
            obtain ⟨i, hi', rfl, hz, Sq⟩ := hrel
            clear Sr
            have Sr := Sq
            clear Sq
            obtain ⟨x0, x1, x2, x3, x4, x5, xz⟩ := facts3 (Sr.cells 3 rfl)
            obtain ⟨y0, y1, y2, y3, y4, y5, yz⟩ := facts3 (Sr.cells 1 rfl)
            by_cases hlt2 : i < X.zs.length
            · have hve := HMiss.out i (by rw [← lX1.out]; exact hlt2)
              have HVX := Lib.hid fun (W : World) h => MissAt_any X a2 c2 (i : Int) W (by omega) h
              have HVY := Lib.hid fun (W : World) h => MissAt_any Y a4 c4 (i : Int) W (by omega) h
              generalize missI X (i : Int) = vx at hve HVX
              generalize missI Y (i : Int) = vy at hve HVY
              have d1 : decide (vy < vx) = false := decide_eq_false (by omega)
              have hmix : Tryz.prog.follows .mixedOrders = true := by kernel_rfl
              go_wp2_with fail
              refine (wpIn_wide (n := 9)).1 ?_
              refine wpIn_region_quietR (fun w' => Below wr.heap.size wr w') hmix (by kernel_rfl) (by kernel_rfl) ((Below.refl _ _).drew) ?_
              refine wpQuietIn_step (fun _ _ _ _ => trivial) (fun K hK => ?_)
              go_simp
              refine ⟨tabV X a2 c2, fun w' hb => ?_, hK _ ?_⟩
              · have q0 := (hb.cell (p := ⟨w2.heap.size, 0, none⟩) (by show w2.heap.size < _; omega)).trans x0
                have q1 := (hb.cell (p := ⟨w2.heap.size, 1, none⟩) (by show w2.heap.size < _; omega)).trans x1
                have q2 := (hb.cell (p := ⟨w2.heap.size, 2, none⟩) (by show w2.heap.size < _; omega)).trans x2
                unfold tabV
                go_simp
              clear hK K
              refine wpQuietIn_step (fun _ _ _ _ => trivial) (fun K hK => ?_)
              go_simp
              refine ⟨_, fun w' hb => rfl, hK _ ?_⟩
              clear hK K
              refine wpQuietIn_step (fun _ _ _ _ => trivial) (fun K hK => ?_)
              go_simp
              refine ⟨.int .i64 vx, fun w' hb => (callsIn_wide.2 (HVX.out w' (by exact (Sr.below hb).ints 4 rfl))).mono ?_, hK _ ?_⟩
              · rintro e w20 ⟨rfl, hb6⟩
                exact ⟨rfl, hb.trans (hb6.mono hb.size)⟩
              clear hK K
              refine wpQuietIn_step (fun _ _ _ _ => trivial) (fun K hK => ?_)
              go_simp
              refine ⟨tabV Y a4 c4, fun w' hb => ?_, hK _ ?_⟩
              · have q0 := (hb.cell (p := ⟨w4.heap.size, 0, none⟩) (by show w4.heap.size < _; omega)).trans y0
                have q1 := (hb.cell (p := ⟨w4.heap.size, 1, none⟩) (by show w4.heap.size < _; omega)).trans y1
                have q2 := (hb.cell (p := ⟨w4.heap.size, 2, none⟩) (by show w4.heap.size < _; omega)).trans y2
                unfold tabV
                go_simp
              clear hK K
              refine wpQuietIn_step (fun _ _ _ _ => trivial) (fun K hK => ?_)
              go_simp
              refine ⟨_, fun w' hb => rfl, hK _ ?_⟩
              clear hK K
              refine wpQuietIn_step (fun _ _ _ _ => trivial) (fun K hK => ?_)
              go_simp
              refine ⟨.int .i64 vy, fun w' hb => (callsIn_wide.2 (HVY.out w' (by exact (Sr.below hb).ints 2 rfl))).mono ?_, hK _ ?_⟩
              · rintro e w20 ⟨rfl, hb6⟩
                exact ⟨rfl, hb.trans (hb6.mono hb.size)⟩
              clear hK K
              refine wpQuietIn_step (fun _ _ _ _ => trivial) (fun K hK => ?_)
              go_simp
              refine ⟨_, fun w' hb => rfl, hK _ ?_⟩
              clear hK K
              refine fun w10 hb => ?_
              have S9 := Sr.below hb
              have hz9 := Nat.le_trans hz hb.size
              clear x0 x1 x2 x3 x4 x5 xz y0 y1 y2 y3 y4 y5 yz
              go_wp2_with fail
              go_roundw
              case rel => exact ⟨i + 1, by omega, by go_num, hz9, S9⟩
              case measure => simp [intOf]; omega
            · obtain rfl : i = X.zs.length := by omega
              go_wp2_with fail
              go_ret
              exact ⟨rfl, Sr.old⟩
  · have t1 : decide (1048576 < (ys.length : Int)) = true := by simp; omega
    go_enter Tryz.func7, Tryz.ntmps7
    go_wp2_with fail
    go_ret
    exact ⟨rfl, S0.old⟩

end Go.Proofs.YtpncpeokdcolpaaGreatDoor

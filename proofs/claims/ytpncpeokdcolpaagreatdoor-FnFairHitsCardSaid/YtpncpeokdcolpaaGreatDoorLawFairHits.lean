/-
  The law FnFairHits: the walk.
-/
import Derived.Test.YtpncpeokdcolpaaGreatDoorDrawn
import Derived.Test.YtpncpeokdcolpaaGreatDoorDraw12
import Derived.Test.YtpncpeokdcolpaaGreatDoorFairs2All
import Derived.Test.YtpncpeokdcolpaaGreatDoorFairOfS
import Derived.Test.YtpncpeokdcolpaaGreatDoorClean
import Derived.Test.YtpncpeokdcolpaaGreatDoorCostsAll
import Derived.Test.YtpncpeokdcolpaaGreatDoorHitI
import Derived.Test.YtpncpeokdcolpaaGreatDoorMost
import Derived.Test.YtpncpeokdcolpaaGreatDoorFairAll
import Derived.Test.YtpncpeokdcolpaaGreatDoorMath
namespace Go.Proofs.YtpncpeokdcolpaaGreatDoor
open Go.RowKit

theorem fof_fog {T : Tab} (hv : validB T = true) : fofOk T = fogOk T ∧ fofT T = fallT (freeG T) (keysG T) := fof_eq hv

set_option maxRecDepth 100000 in
set_option maxHeartbeats 16000000 in
theorem walkFnFairHits (w : World) (a : Option Addr) (len cap : Nat) (zs : List Int) (h : IsRow .u8 w a len cap zs) (hL : Laid w) :
    Calls Tryz.prog 6 #[.slice a len cap] w fun e w' => e = .returned (.bool true) ∧ Below w.heap.size w w' := by
  obtain ⟨ys, rfl, hC, S0⟩ := came_of h
  clear h
  by_cases hs : ys.length ≤ 1048576
  · have t1 : decide (1048576 < (ys.length : Int)) = false := by simp; omega
    go_enter Tryz.func6, Tryz.ntmps6
    go_wp2_with fail
    refine (DrawHitVisits_any (by exact S0) hC).mono ?_
    rintro e w1 ⟨T, a1, c1, lo, hi, rfl, hT, hlo, S1⟩
    obtain ⟨n1, n2⟩ := hT.len
    have hxl := fofT_len T
    have hyl := cleanT_len T
    have HD := Lib.hid fun (W : World) (h : IntsAt W a1 T.zs) (hl : Laid W) => FairOf_any T a1 c1 W (by omega) h hl
    have HS := Lib.hid fun (W : World) (h : IntsAt W a1 T.zs) => specFairOf_any T a1 c1 W (by omega) h
    have HK := Lib.hid fun (W : World) (h : IntsAt W a1 T.zs) => CleanTable_any T a1 c1 W (by omega) h
    have hcs : fofOk T = true → soundB T = true → FairHits (fofT T) (cleanT T) T.zs.length := fun h1 h2 => by
      have hv := (sound_all.1 h2).1
      obtain ⟨e1, e2⟩ := fof_fog hv
      rw [e2]
      exact fairhits_says h2 (by rw [← e1]; exact h1)
    generalize fofT T = X at hxl HD HS hcs
    generalize cleanT T = Y at hyl HK hcs
    generalize fofOk T = xok at HD HS hcs
    generalize soundB T = yok at HK hcs
    have S2 := S1.alloc #[.int .i64 T.t, .int .i64 T.p, .slice a1 T.zs.length c1] 27
    go_wp2_with fail
    refine (HD.out _ (by exact S2.ints 1 rfl) (hL.below S2.old hL.pos)).mono ?_
    rintro e w2 ⟨a2, c2, rfl, ho, hb⟩
    have S3 : ∃ l2 h2, St w w2 [It.own l2 h2 a2 X.zs, It.box w1.heap.size #[.int .i64 T.t, .int .i64 T.p, .slice a1 T.zs.length c1] 27, It.own lo hi a1 T.zs] := ⟨_, _, (S2.below hb).own ho⟩
    obtain ⟨lX, hX, S3⟩ := S3
    clear S1 S2 ho hb
    obtain ⟨x0, x1, x2, x3, x4, x5, xz⟩ := facts3 (S3.cells 1 rfl)
    have S4 := S3.alloc #[.int .i64 X.t, .int .i64 X.p, .slice a2 X.zs.length c2] 27
    clear S3
    go_wp2_with fail
    clear x0 x1 x2 x3 x4 x5 xz
    refine (HS.out _ (by exact S4.ints 3 rfl)).mono ?_
    rintro e w3 ⟨a3, c3, rfl, ho, hb⟩
    have S5 := (S4.below hb).alloc #[.int .i64 X.t, .int .i64 X.p, .slice a3 X.zs.length c3] 27
    clear S4 ho hb
    obtain ⟨x0, x1, x2, x3, x4, x5, xz⟩ := facts3 (S5.cells 3 rfl)
    go_wp2_with fail
    clear x0 x1 x2 x3 x4 x5 xz
    refine (HK.out _ (by exact S5.ints 4 rfl)).mono ?_
    rintro e w4 ⟨a4, c4, rfl, ho, hb⟩
    have S6 : ∃ l2 h2, St w w4 [It.own l2 h2 a4 Y.zs, It.box w2.heap.size #[.int .i64 X.t, .int .i64 X.p, .slice a2 X.zs.length c2] 27, It.own lX hX a2 X.zs] := ⟨_, _, ((S5.below hb).own ho).turn fun i hi => by
      simp only [List.mem_cons, List.not_mem_nil, or_false] at hi ⊢
      rcases hi with h | h | h
      · exact .inl h
      · exact .inr (.inr (.inl h))
      · exact .inr (.inr (.inr (.inl h)))⟩
    obtain ⟨lY, hY, S6⟩ := S6
    clear S5 ho hb
    have S7 := S6.alloc #[.int .i64 Y.t, .int .i64 Y.p, .slice a4 Y.zs.length c4] 27
    clear S6
    cases xok
    · go_wp2_with fail
      go_ret
      exact ⟨rfl, S7.old⟩
    · cases yok
      · go_wp2_with fail
        go_ret
        exact ⟨rfl, S7.old⟩
      · have C := hcs rfl rfl
        have lX1 := Lib.hid C.lenX
        have HMiss := Lib.hid C.miss
        have hhe := C.hits
        have hmo := C.most
        have zx : w2.heap.size < (w4.alloc (.cells #[.int .i64 Y.t, .int .i64 Y.p, .slice a4 Y.zs.length c4] 27)).heap.size := S7.sz 2 rfl
        have zy : w4.heap.size < (w4.alloc (.cells #[.int .i64 Y.t, .int .i64 Y.p, .slice a4 Y.zs.length c4] 27)).heap.size := S7.sz 0 rfl
        have HHX := fun (W : World) h => HitVisits_any X a2 c2 W (by omega) h
        have HHY := Lib.hid fun (W : World) h => HitVisits_any Y a4 c4 W (by omega) h
        have HOX := Lib.hid fun (W : World) h => MostAway_any X a2 c2 W (by omega) h
        have HOY := Lib.hid fun (W : World) h => MostAway_any Y a4 c4 W (by omega) h
        rw [hhe] at HHX
        have HHX := Lib.hid HHX
        clear C hcs hhe
        generalize hitI Y = hx at HHX HHY
        generalize mostAway X = ox at HOX hmo
        generalize mostAway Y = oy at HOY hmo
        have d9 : decide (ox ≤ oy) = true := decide_eq_true hmo
        obtain ⟨x0, x1, x2, x3, x4, x5, xz⟩ := facts3 (S7.cells 2 rfl)
        have hz0 : (w4.alloc (.cells #[.int .i64 Y.t, .int .i64 Y.p, .slice a4 Y.zs.length c4] 27)).heap.size ≤ (w4.alloc (.cells #[.int .i64 Y.t, .int .i64 Y.p, .slice a4 Y.zs.length c4] 27)).heap.size := Nat.le_refl _
        generalize hB : (w4.alloc (.cells #[.int .i64 Y.t, .int .i64 Y.p, .slice a4 Y.zs.length c4] 27)).heap.size = BB at zx zy hz0
        have HB := Lib.hid hB
        clear hB
        go_wp2_with fail
        clear x0 x1 x2 x3 x4 x5 xz
        go_loopw [10, 43] (fun _ i wr => ∃ j : Nat, j ≤ X.zs.length ∧ i = .int .i64 j ∧ BB ≤ wr.heap.size ∧ St w wr [It.box w4.heap.size #[.int .i64 Y.t, .int .i64 Y.p, .slice a4 Y.zs.length c4] 27, It.own lY hY a4 Y.zs, It.box w2.heap.size #[.int .i64 X.t, .int .i64 X.p, .slice a2 X.zs.length c2] 27, It.own lX hX a2 X.zs]) (fun _ i _ => X.zs.length - (intOf i).toNat)
        case atStart => exact ⟨0, Nat.zero_le _, rfl, by rw [HB.out]; exact Nat.le_refl _, S7⟩
        case round =>
          obtain ⟨j, hj, rfl, hz, Sr⟩ := hrel
          clear S7
          obtain ⟨x0, x1, x2, x3, x4, x5, xz⟩ := facts3 (Sr.cells 2 rfl)
          obtain ⟨y0, y1, y2, y3, y4, y5, yz⟩ := facts3 (Sr.cells 0 rfl)
          have hmix : Tryz.prog.follows .mixedOrders = true := by kernel_rfl
          by_cases hlt : j < X.zs.length
          · obtain ⟨hm1, hm2⟩ := HMiss.out j (by rw [← lX1.out]; exact hlt)
            have HMX := fun (W : World) h => MissAt_any X a2 c2 (j : Int) W (by omega) h
            rw [hm1] at HMX
            have HMX := Lib.hid HMX
            have HMY := Lib.hid fun (W : World) h => MissAt_any Y a4 c4 (j : Int) W (by omega) h
            have HFX := Lib.hid fun (W : World) h hl => FairMiss_any X a2 c2 (j : Int) W (by omega) h hl
            clear hm1
            generalize missI Y (j : Int) = mx at HMX HMY hm2
            generalize fmissI X (j : Int) = fx at HFX hm2
            have d1 : decide (mx < fx) = false := decide_eq_false (by omega)
            go_wp2_with fail
            refine (wpIn_wide (n := 9)).1 ?_
            refine wpIn_region_quietR (fun w' => Below wr.heap.size wr w') hmix (by kernel_rfl) (by kernel_rfl) ((Below.refl _ _).drew) ?_
            refine wpQuietIn_step (fun _ _ _ _ => trivial) (fun K hK => ?_)
            go_simp
            refine ⟨tabV X a2 c2, fun w' hb => ?_, hK _ ?_⟩
            · have q0 := (hb.cell (p := ⟨w2.heap.size, 0, none⟩) (by show w2.heap.size < _; omega)).trans x0
              have q1 := (hb.cell (p := ⟨w2.heap.size, 1, none⟩) (by show w2.heap.size < _; omega)).trans x1
              have q2 := (hb.cell (p := ⟨w2.heap.size, 2, none⟩) (by show w2.heap.size < _; omega)).trans x2
              unfold tabV
              go_simp
            clear hK K
            refine wpQuietIn_step (fun _ _ _ _ => trivial) (fun K hK => ?_)
            go_simp
            refine ⟨_, fun w' hb => rfl, hK _ ?_⟩
            clear hK K
            refine wpQuietIn_step (fun _ _ _ _ => trivial) (fun K hK => ?_)
            go_simp
            refine ⟨.int .i64 mx, fun w' hb => (callsIn_wide.2 (HMX.out w' (by exact (Sr.below hb).ints 3 rfl))).mono ?_, hK _ ?_⟩
            · rintro e w20 ⟨rfl, hb6⟩
              exact ⟨rfl, hb.trans (hb6.mono hb.size)⟩
            clear hK K
            refine wpQuietIn_step (fun _ _ _ _ => trivial) (fun K hK => ?_)
            go_simp
            refine ⟨tabV Y a4 c4, fun w' hb => ?_, hK _ ?_⟩
            · have q0 := (hb.cell (p := ⟨w4.heap.size, 0, none⟩) (by show w4.heap.size < _; omega)).trans y0
              have q1 := (hb.cell (p := ⟨w4.heap.size, 1, none⟩) (by show w4.heap.size < _; omega)).trans y1
              have q2 := (hb.cell (p := ⟨w4.heap.size, 2, none⟩) (by show w4.heap.size < _; omega)).trans y2
              unfold tabV
              go_simp
            clear hK K
            refine wpQuietIn_step (fun _ _ _ _ => trivial) (fun K hK => ?_)
            go_simp
            refine ⟨_, fun w' hb => rfl, hK _ ?_⟩
            clear hK K
            refine wpQuietIn_step (fun _ _ _ _ => trivial) (fun K hK => ?_)
            go_simp
            refine ⟨.int .i64 mx, fun w' hb => (callsIn_wide.2 (HMY.out w' (by exact (Sr.below hb).ints 1 rfl))).mono ?_, hK _ ?_⟩
            · rintro e w20 ⟨rfl, hb6⟩
              exact ⟨rfl, hb.trans (hb6.mono hb.size)⟩
            clear hK K
            refine wpQuietIn_step (fun _ _ _ _ => trivial) (fun K hK => ?_)
            go_simp
            refine ⟨_, fun w' hb => rfl, hK _ ?_⟩
            clear hK K
            refine wpQuietIn_step (fun _ _ _ _ => trivial) (fun K hK => ?_)
            go_simp
            refine ⟨_, fun w' hb => rfl, hK _ ?_⟩
            clear hK K
            refine wpQuietIn_step (fun _ _ _ _ => trivial) (fun K hK => ?_)
            go_simp
            refine ⟨_, fun w' hb => rfl, hK _ ?_⟩
            clear hK K
            refine wpQuietIn_step (fun _ _ _ _ => trivial) (fun K hK => ?_)
            go_simp
            refine ⟨_, fun w' hb => rfl, hK _ ?_⟩
            clear hK K
            refine wpQuietIn_step (fun _ _ _ _ => trivial) (fun K hK => ?_)
            go_simp
            refine ⟨tabV X a2 c2, fun w' hb => ?_, hK _ ?_⟩
            · have q0 := (hb.cell (p := ⟨w2.heap.size, 0, none⟩) (by show w2.heap.size < _; omega)).trans x0
              have q1 := (hb.cell (p := ⟨w2.heap.size, 1, none⟩) (by show w2.heap.size < _; omega)).trans x1
              have q2 := (hb.cell (p := ⟨w2.heap.size, 2, none⟩) (by show w2.heap.size < _; omega)).trans x2
              unfold tabV
              go_simp
            clear hK K
            refine wpQuietIn_step (fun _ _ _ _ => trivial) (fun K hK => ?_)
            go_simp
            refine ⟨_, fun w' hb => rfl, hK _ ?_⟩
            clear hK K
            refine wpQuietIn_step (fun _ _ _ _ => trivial) (fun K hK => ?_)
            go_simp
            refine ⟨.int .i64 fx, fun w' hb => (callsIn_wide.2 (HFX.out w' (by exact (Sr.below hb).ints 3 rfl) (hL.below (Sr.below hb).old hL.pos))).mono ?_, hK _ ?_⟩
            · rintro e w20 ⟨rfl, hb6⟩
              exact ⟨rfl, hb.trans (hb6.mono hb.size)⟩
            clear hK K
            refine wpQuietIn_step (fun _ _ _ _ => trivial) (fun K hK => ?_)
            go_simp
            refine ⟨tabV Y a4 c4, fun w' hb => ?_, hK _ ?_⟩
            · have q0 := (hb.cell (p := ⟨w4.heap.size, 0, none⟩) (by show w4.heap.size < _; omega)).trans y0
              have q1 := (hb.cell (p := ⟨w4.heap.size, 1, none⟩) (by show w4.heap.size < _; omega)).trans y1
              have q2 := (hb.cell (p := ⟨w4.heap.size, 2, none⟩) (by show w4.heap.size < _; omega)).trans y2
              unfold tabV
              go_simp
            clear hK K
            refine wpQuietIn_step (fun _ _ _ _ => trivial) (fun K hK => ?_)
            go_simp
            refine ⟨_, fun w' hb => rfl, hK _ ?_⟩
            clear hK K
            refine wpQuietIn_step (fun _ _ _ _ => trivial) (fun K hK => ?_)
            go_simp
            refine ⟨.int .i64 mx, fun w' hb => (callsIn_wide.2 (HMY.out w' (by exact (Sr.below hb).ints 1 rfl))).mono ?_, hK _ ?_⟩
            · rintro e w20 ⟨rfl, hb6⟩
              exact ⟨rfl, hb.trans (hb6.mono hb.size)⟩
            clear hK K
            refine wpQuietIn_step (fun _ _ _ _ => trivial) (fun K hK => ?_)
            go_simp
            refine ⟨_, fun w' hb => rfl, hK _ ?_⟩
            clear hK K
            refine wpQuietIn_step (fun _ _ _ _ => trivial) (fun K hK => ?_)
            go_simp
            refine ⟨_, fun w' hb => rfl, hK _ ?_⟩
            clear hK K
            refine wpQuietIn_step (fun _ _ _ _ => trivial) (fun K hK => ?_)
            go_simp
            refine ⟨_, fun w' hb => rfl, hK _ ?_⟩
            clear hK K
            refine fun w10 hb => ?_
            have S9 := Sr.below hb
            have hz9 := Nat.le_trans hz hb.size
            clear x0 x1 x2 x3 x4 x5 xz y0 y1 y2 y3 y4 y5 yz
            go_wp2_with fail
            go_roundw
            case rel => exact ⟨j + 1, by omega, by go_num, hz9, S9⟩
            case measure => simp [intOf]; omega
          · obtain rfl : j = X.zs.length := by omega
            go_wp2_with fail
            refine (wpIn_wide (n := 9)).1 ?_
            refine wpIn_region_quietR (fun w' => Below wr.heap.size wr w') hmix (by kernel_rfl) (by kernel_rfl) ((Below.refl _ _).drew) ?_
            refine wpQuietIn_step (fun _ _ _ _ => trivial) (fun K hK => ?_)
            go_simp
            refine ⟨tabV X a2 c2, fun w' hb => ?_, hK _ ?_⟩
            · have q0 := (hb.cell (p := ⟨w2.heap.size, 0, none⟩) (by show w2.heap.size < _; omega)).trans x0
              have q1 := (hb.cell (p := ⟨w2.heap.size, 1, none⟩) (by show w2.heap.size < _; omega)).trans x1
              have q2 := (hb.cell (p := ⟨w2.heap.size, 2, none⟩) (by show w2.heap.size < _; omega)).trans x2
              unfold tabV
              go_simp
            clear hK K
            refine wpQuietIn_step (fun _ _ _ _ => trivial) (fun K hK => ?_)
            go_simp
            refine ⟨.int .i64 hx, fun w' hb => (callsIn_wide.2 (HHX.out w' (by exact (Sr.below hb).ints 3 rfl))).mono ?_, hK _ ?_⟩
            · rintro e w20 ⟨rfl, hb6⟩
              exact ⟨rfl, hb.trans (hb6.mono hb.size)⟩
            clear hK K
            refine wpQuietIn_step (fun _ _ _ _ => trivial) (fun K hK => ?_)
            go_simp
            refine ⟨tabV Y a4 c4, fun w' hb => ?_, hK _ ?_⟩
            · have q0 := (hb.cell (p := ⟨w4.heap.size, 0, none⟩) (by show w4.heap.size < _; omega)).trans y0
              have q1 := (hb.cell (p := ⟨w4.heap.size, 1, none⟩) (by show w4.heap.size < _; omega)).trans y1
              have q2 := (hb.cell (p := ⟨w4.heap.size, 2, none⟩) (by show w4.heap.size < _; omega)).trans y2
              unfold tabV
              go_simp
            clear hK K
            refine wpQuietIn_step (fun _ _ _ _ => trivial) (fun K hK => ?_)
            go_simp
            refine ⟨.int .i64 hx, fun w' hb => (callsIn_wide.2 (HHY.out w' (by exact (Sr.below hb).ints 1 rfl))).mono ?_, hK _ ?_⟩
            · rintro e w20 ⟨rfl, hb6⟩
              exact ⟨rfl, hb.trans (hb6.mono hb.size)⟩
            clear hK K
            refine wpQuietIn_step (fun _ _ _ _ => trivial) (fun K hK => ?_)
            go_simp
            refine ⟨_, fun w' hb => rfl, hK _ ?_⟩
            clear hK K
            refine wpQuietIn_step (fun _ _ _ _ => trivial) (fun K hK => ?_)
            go_simp
            refine ⟨_, fun w' hb => rfl, hK _ ?_⟩
            clear hK K
            refine wpQuietIn_step (fun _ _ _ _ => trivial) (fun K hK => ?_)
            go_simp
            refine ⟨tabV X a2 c2, fun w' hb => ?_, hK _ ?_⟩
            · have q0 := (hb.cell (p := ⟨w2.heap.size, 0, none⟩) (by show w2.heap.size < _; omega)).trans x0
              have q1 := (hb.cell (p := ⟨w2.heap.size, 1, none⟩) (by show w2.heap.size < _; omega)).trans x1
              have q2 := (hb.cell (p := ⟨w2.heap.size, 2, none⟩) (by show w2.heap.size < _; omega)).trans x2
              unfold tabV
              go_simp
            clear hK K
            refine wpQuietIn_step (fun _ _ _ _ => trivial) (fun K hK => ?_)
            go_simp
            refine ⟨.int .i64 ox, fun w' hb => (callsIn_wide.2 (HOX.out w' (by exact (Sr.below hb).ints 3 rfl))).mono ?_, hK _ ?_⟩
            · rintro e w20 ⟨rfl, hb6⟩
              exact ⟨rfl, hb.trans (hb6.mono hb.size)⟩
            clear hK K
            refine wpQuietIn_step (fun _ _ _ _ => trivial) (fun K hK => ?_)
            go_simp
            refine ⟨tabV Y a4 c4, fun w' hb => ?_, hK _ ?_⟩
            · have q0 := (hb.cell (p := ⟨w4.heap.size, 0, none⟩) (by show w4.heap.size < _; omega)).trans y0
              have q1 := (hb.cell (p := ⟨w4.heap.size, 1, none⟩) (by show w4.heap.size < _; omega)).trans y1
              have q2 := (hb.cell (p := ⟨w4.heap.size, 2, none⟩) (by show w4.heap.size < _; omega)).trans y2
              unfold tabV
              go_simp
            clear hK K
            refine wpQuietIn_step (fun _ _ _ _ => trivial) (fun K hK => ?_)
            go_simp
            refine ⟨.int .i64 oy, fun w' hb => (callsIn_wide.2 (HOY.out w' (by exact (Sr.below hb).ints 1 rfl))).mono ?_, hK _ ?_⟩
            · rintro e w20 ⟨rfl, hb6⟩
              exact ⟨rfl, hb.trans (hb6.mono hb.size)⟩
            clear hK K
            refine wpQuietIn_step (fun _ _ _ _ => trivial) (fun K hK => ?_)
            go_simp
            refine ⟨_, fun w' hb => rfl, hK _ ?_⟩
            clear hK K
            refine wpQuietIn_step (fun _ _ _ _ => trivial) (fun K hK => ?_)
            go_simp
            refine ⟨_, fun w' hb => rfl, hK _ ?_⟩
            clear hK K
            refine wpQuietIn_step (fun _ _ _ _ => trivial) (fun K hK => ?_)
            go_simp
            refine ⟨_, fun w' hb => rfl, hK _ ?_⟩
            clear hK K
            refine fun w10 hb => ?_
            have S9 := Sr.below hb
            go_wp2_with fail
            go_ret
            exact ⟨rfl, S9.old⟩
  · have t1 : decide (1048576 < (ys.length : Int)) = true := by simp; omega
    go_enter Tryz.func6, Tryz.ntmps6
    go_wp2_with fail
    go_ret
    exact ⟨rfl, S0.old⟩

end Go.Proofs.YtpncpeokdcolpaaGreatDoor

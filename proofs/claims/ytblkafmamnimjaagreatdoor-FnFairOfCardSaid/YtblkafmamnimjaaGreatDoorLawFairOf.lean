/-
  The law FnFairOf: the walk.
-/
import Derived.Test.YtblkafmamnimjaaGreatDoorDrawn
import Derived.Test.YtblkafmamnimjaaGreatDoorDraw6D
import Derived.Test.YtblkafmamnimjaaGreatDoorFairs2All
import Derived.Test.YtblkafmamnimjaaGreatDoorFairOfS
import Derived.Test.YtblkafmamnimjaaGreatDoorFairAll
import Derived.Test.YtblkafmamnimjaaGreatDoorMost
import Derived.Test.YtblkafmamnimjaaGreatDoorSame
import Derived.Test.YtblkafmamnimjaaGreatDoorCount
import Derived.Test.YtblkafmamnimjaaGreatDoorKeys
import Derived.Test.YtblkafmamnimjaaGreatDoorLostI
import Derived.Test.YtblkafmamnimjaaGreatDoorOt
import Derived.Test.YtblkafmamnimjaaGreatDoorMath
namespace Go.Proofs.YtblkafmamnimjaaGreatDoor
open Go.RowKit

theorem fof_valid {T : Tab} (h : fofOk T = true) : validB T = true := by
  simp only [fofOk, Bool.and_eq_true] at h
  exact h.1.1

set_option maxRecDepth 100000 in
set_option maxHeartbeats 16000000 in
theorem walkFnFairOf (w : World) (a : Option Addr) (len cap : Nat) (zs : List Int) (h : IsRow .u8 w a len cap zs) (hL : Laid w) :
    Calls Tryz.prog 4 #[.slice a len cap] w fun e w' => e = .returned (.bool true) ∧ Below w.heap.size w w' := by
  obtain ⟨ys, rfl, hC, S0⟩ := came_of h
  clear h
  by_cases hs : ys.length ≤ 1048576
  · have t1 : decide (1048576 < (ys.length : Int)) = false := by simp; omega
    go_enter Tryz.func4, Tryz.ntmps4
    go_wp2_with fail
    refine (DrawFairOf_any (by exact S0) hC).mono ?_
    rintro e w1 ⟨T, a1, c1, lo, hi, rfl, hT, hlo, S1⟩
    obtain ⟨n1, n2⟩ := hT.len
    have hxl := fofT_len T
    have HD := Lib.hid fun (W : World) (h : IntsAt W a1 T.zs) (hl : Laid W) => FairOf_any T a1 c1 W (by omega) h hl
    have HS := Lib.hid fun (W : World) (h : IntsAt W a1 T.zs) => specFairOf_any T a1 c1 W (by omega) h
    have hno : fofOk T = false → (fofT T).zs.length = 0 := fun h => by simp [fofT, h]
    have hcs : fofOk T = true → validB T = true ∧ FairOfSays T (fofT T) := fun h1 => by
      have hv := fof_valid h1
      obtain ⟨e1, e2⟩ := fof_eq hv
      refine ⟨hv, ?_⟩
      rw [e2]
      exact fairof_says hv (by rw [e1] at h1; exact h1)
    generalize fofT T = X at hxl HD HS hcs hno
    generalize fofOk T = xok at HD HS hcs hno
    have S2 := S1.alloc #[.int .i64 T.t, .int .i64 T.p, .slice a1 T.zs.length c1] 25
    go_wp2_with fail
    refine (HD.out _ (by exact S2.ints 1 rfl) (hL.below S2.old hL.pos)).mono ?_
    rintro e w2 ⟨a2, c2, rfl, ho, hb⟩
    have S3 : ∃ l2 h2, St w w2 [It.own l2 h2 a2 X.zs, It.box w1.heap.size #[.int .i64 T.t, .int .i64 T.p, .slice a1 T.zs.length c1] 25, It.own lo hi a1 T.zs] := ⟨_, _, (S2.below hb).own ho⟩
    obtain ⟨lX, hX, S3⟩ := S3
    clear S1 S2 ho hb
    obtain ⟨x0, x1, x2, x3, x4, x5, xz⟩ := facts3 (S3.cells 1 rfl)
    have S4 := S3.alloc #[.int .i64 X.t, .int .i64 X.p, .slice a2 X.zs.length c2] 25
    clear S3
    go_wp2_with fail
    clear x0 x1 x2 x3 x4 x5 xz
    refine (HS.out _ (by exact S4.ints 3 rfl)).mono ?_
    rintro e w3 ⟨a3, c3, rfl, ho, hb⟩
    have S5 : ∃ l3 h3, St w (w3.alloc (.cells #[.int .i64 X.t, .int .i64 X.p, .slice a3 X.zs.length c3] 25)) [It.box w3.heap.size #[.int .i64 X.t, .int .i64 X.p, .slice a3 X.zs.length c3] 25, It.own l3 h3 a3 X.zs, It.box w2.heap.size #[.int .i64 X.t, .int .i64 X.p, .slice a2 X.zs.length c2] 25, It.own lX hX a2 X.zs, It.box w1.heap.size #[.int .i64 T.t, .int .i64 T.p, .slice a1 T.zs.length c1] 25, It.own lo hi a1 T.zs] := ⟨_, _, ((S4.below hb).own ho).alloc _ _⟩
    obtain ⟨l3, h3, S5⟩ := S5
    clear S4 ho hb
    have HSM := Lib.hid fun (W : World) h1 h2 => SameTable_any X X a2 a3 c2 c3 W (by omega) (by omega) h1 h2
    have hsame : sameB X X = true := by simp [sameB]
    rw [hsame] at HSM
    clear hsame
    obtain ⟨x0, x1, x2, x3, x4, x5, xz⟩ := facts3 (S5.cells 2 rfl)
    obtain ⟨y0, y1, y2, y3, y4, y5, yz⟩ := facts3 (S5.cells 0 rfl)
    go_wp2_with fail
    clear x0 x1 x2 x3 x4 x5 xz y0 y1 y2 y3 y4 y5 yz
    refine (HSM.out _ (by exact S5.ints 3 rfl) (by exact S5.ints 1 rfl)).mono ?_
    rintro e w4 ⟨rfl, hb⟩
    have S6 := S5.below hb
    clear S5 hb
    cases xok
    · have hl0 := hno rfl
      have d0 : ((X.zs.length : Int) == 0) = true := by rw [hl0]; rfl
      clear hl0 hno
      obtain ⟨x0, x1, x2, x3, x4, x5, xz⟩ := facts3 (S6.cells 2 rfl)
      obtain ⟨y0, y1, y2, y3, y4, y5, yz⟩ := facts3 (S6.cells 0 rfl)
      go_wp2_with fail
      clear x0 x1 x2 x3 x4 x5 xz y0 y1 y2 y3 y4 y5 yz
      refine (HSM.out _ (by exact S6.ints 3 rfl) (by exact S6.ints 1 rfl)).mono ?_
      rintro e w5 ⟨rfl, hb⟩
      have S7 := S6.below hb
      obtain ⟨x0, x1, x2, x3, x4, x5, xz⟩ := facts3 (S7.cells 2 rfl)
      go_wp2_with fail
      go_ret
      exact ⟨rfl, S7.old⟩
    · obtain ⟨hv, C⟩ := hcs rfl
      have HKT := fun (W : World) h => KeysIn_any T a1 c1 W (by omega) h
      have HKX := fun (W : World) h => KeysIn_any X a2 c2 W (by omega) h
      have ek : keysOf X = keysOf T := C.keys
      rw [ek] at HKX
      have hkl : (keysOf T).length ≤ 100 := by
        unfold keysOf
        rw [if_pos hv]
        exact sortTo_len _ _
      have HKT := Lib.hid HKT
      have HKX := Lib.hid HKX
      have HC := Lib.hid fun (W : World) h => CountSlots_any T a1 c1 W (by omega) h
      have HFX := fun (W : World) h hl => IsFair_any X a2 c2 W (by omega) h hl
      rw [C.fair] at HFX
      have HFX := Lib.hid HFX
      have HSO := Lib.hid fun (W : World) h => IsSound_any T a1 c1 W (by omega) h
      have HOX := Lib.hid fun (W : World) h => MostAway_any X a2 c2 W (by omega) h
      have HOY := Lib.hid fun (W : World) h => MostAway_any T a1 c1 W (by omega) h
      have HTX := Lib.hid fun (W : World) h => TotalAway_any X a2 c2 W (by omega) h
      have HTY := Lib.hid fun (W : World) h => TotalAway_any T a1 c1 W (by omega) h
      have hnear := C.near
      have hvv := Lib.hid hv
      clear C hcs hno ek hv
      generalize keysOf T = ks at HKT HKX hkl
      generalize validB X = vx at HKX
      generalize countK T = ck at HC
      have hct0 : ¬ 0 < countT T → countT T = 0 := fun h => by
        simp only [countT, hvv.out, if_true] at h ⊢
        omega
      generalize countT T = ct at HC hnear hct0
      clear hvv
      generalize validB T = vt at HKT
      generalize countF T = cf at HC hnear
      generalize soundB T = so at HSO hnear
      generalize mostAway X = ox at HOX hnear
      generalize mostAway T = oy at HOY hnear
      generalize totalAway X = tx at HTX hnear
      generalize totalAway T = ty at HTY hnear
      have HN := Lib.hid hnear
      clear hnear
      obtain ⟨y0, y1, y2, y3, y4, y5, yz⟩ := facts3 (S6.cells 4 rfl)
      go_wp2_with fail
      clear y0 y1 y2 y3 y4 y5 yz
      refine (HKT.out _ (by exact S6.ints 5 rfl)).mono ?_
      rintro e w5 ⟨a5, c5, rfl, ho, hb⟩
      have S7 : ∃ l5 h5, St w w5 [It.own l5 h5 a5 ks, It.box w2.heap.size #[.int .i64 X.t, .int .i64 X.p, .slice a2 X.zs.length c2] 25, It.own lX hX a2 X.zs, It.box w1.heap.size #[.int .i64 T.t, .int .i64 T.p, .slice a1 T.zs.length c1] 25, It.own lo hi a1 T.zs] := ⟨_, _, ((S6.below hb).own ho).turn fun i hi => by
        simp only [List.mem_cons, List.not_mem_nil, or_false] at hi ⊢
        rcases hi with h | h | h | h | h
        · exact .inl h
        · exact .inr (.inr (.inr (.inl h)))
        · exact .inr (.inr (.inr (.inr (.inl h))))
        · exact .inr (.inr (.inr (.inr (.inr (.inl h)))))
        · exact .inr (.inr (.inr (.inr (.inr (.inr h)))))⟩
      obtain ⟨l5, h5, S7⟩ := S7
      clear S6 ho hb
      obtain ⟨x0, x1, x2, x3, x4, x5, xz⟩ := facts3 (S7.cells 1 rfl)
      go_wp2_with fail
      clear x0 x1 x2 x3 x4 x5 xz
      refine (HKX.out _ (by exact S7.ints 2 rfl)).mono ?_
      rintro e w6 ⟨a6, c6, rfl, ho, hb⟩
      have S8 : ∃ l6 h6, St w w6 [It.own l6 h6 a6 ks, It.own l5 h5 a5 ks, It.box w2.heap.size #[.int .i64 X.t, .int .i64 X.p, .slice a2 X.zs.length c2] 25, It.own lX hX a2 X.zs, It.box w1.heap.size #[.int .i64 T.t, .int .i64 T.p, .slice a1 T.zs.length c1] 25, It.own lo hi a1 T.zs] := ⟨_, _, (S7.below hb).own ho⟩
      obtain ⟨l6, h6, S8⟩ := S8
      clear S7 ho hb
      obtain ⟨y0, y1, y2, y3, y4, y5, yz⟩ := facts3 (S8.cells 4 rfl)
      go_wp2_with fail
      clear y0 y1 y2 y3 y4 y5 yz
      refine (HC.out _ (by exact S8.ints 5 rfl)).mono ?_
      rintro e w7 ⟨rfl, hb⟩
      have S9 := S8.below hb
      clear S8 hb
      obtain ⟨x0, x1, x2, x3, x4, x5, xz⟩ := facts3 (S9.cells 2 rfl)
      go_wp2_with fail
      clear x0 x1 x2 x3 x4 x5 xz
      refine (HFX.out _ (by exact S9.ints 3 rfl) (hL.below S9.old hL.pos)).mono ?_
      rintro e w8 ⟨rfl, hb⟩
      have S10 := S9.below hb
      clear S9 hb
      have HOS := fun (W : World) h1 h2 => otSame_any a5 a6 c5 c6 ks ks W (by omega) (by omega) h1 h2
      have hkk : decide (ks = ks) = true := by simp
      rw [hkk] at HOS
      have HOS := Lib.hid HOS
      clear hkk
      go_wp2_with fail
      refine (HOS.out _ (by exact S10.ints 1 rfl) (by exact S10.ints 0 rfl)).mono ?_
      rintro e w9 ⟨rfl, nq, rfl⟩
      have S11 := (S10.below (below_drewN (Below.refl _ _) nq)).turn (l' := [It.box w2.heap.size #[.int .i64 X.t, .int .i64 X.p, .slice a2 X.zs.length c2] 25, It.own lX hX a2 X.zs, It.box w1.heap.size #[.int .i64 T.t, .int .i64 T.p, .slice a1 T.zs.length c1] 25, It.own lo hi a1 T.zs]) fun i hi => List.mem_cons_of_mem _ (List.mem_cons_of_mem _ hi)
      clear S10
      by_cases h1 : 0 < ct
      · have d1 : decide (0 < ct) = true := decide_eq_true h1
        go_wp2_with fail
        go_ret
        exact ⟨rfl, S11.old⟩
      · have d1 : decide (0 < ct) = false := decide_eq_false h1
        by_cases h2 : cf = 0
        · subst h2
          go_wp2_with fail
          go_ret
          exact ⟨rfl, S11.old⟩
        · have d2 : (cf == 0) = false := beq_eq_false_iff_ne.2 h2
          obtain ⟨y0, y1, y2, y3, y4, y5, yz⟩ := facts3 (S11.cells 2 rfl)
          cases so
          · go_wp2_with fail
            refine (HSO.out _ (by exact S11.ints 3 rfl)).mono ?_
            rintro e w12 ⟨rfl, hb⟩
            have S12 := S11.below hb
            go_wp2_with fail
            go_ret
            exact ⟨rfl, S12.old⟩
          · have hct : ct = 0 := hct0 (by omega)
            obtain ⟨hle, rfl⟩ := HN.out hct h2 rfl
            have d5 : decide (ox ≤ oy) = true := decide_eq_true hle
            go_wp2_with fail
            clear y0 y1 y2 y3 y4 y5 yz
            refine (HSO.out _ (by exact S11.ints 3 rfl)).mono ?_
            rintro e w12 ⟨rfl, hb⟩
            have Sr := S11.below hb
            clear S11 hb
            have zx : w2.heap.size < w12.heap.size := Sr.sz 0 rfl
            have zy : w1.heap.size < w12.heap.size := Sr.sz 2 rfl
            obtain ⟨x0, x1, x2, x3, x4, x5, xz⟩ := facts3 (Sr.cells 0 rfl)
            obtain ⟨y0, y1, y2, y3, y4, y5, yz⟩ := facts3 (Sr.cells 2 rfl)
            have hmix : Tryz.prog.follows .mixedOrders = true := by kernel_rfl
            go_wp2_with fail
            refine (wpIn_wide (n := 9)).1 ?_
            refine wpIn_region_quietR (fun w' => Below w12.heap.size w12 w') hmix (by kernel_rfl) (by kernel_rfl) ((Below.refl _ _).drew) ?_
            refine wpQuietIn_step (fun _ _ _ _ => trivial) (fun K hK => ?_)
            go_simp
            refine ⟨tabV X a2 c2, fun w' hb => ?_, hK _ ?_⟩
            · have q0 := (hb.cell (p := ⟨w2.heap.size, 0, none⟩) (by show w2.heap.size < _; omega)).trans x0
              have q1 := (hb.cell (p := ⟨w2.heap.size, 1, none⟩) (by show w2.heap.size < _; omega)).trans x1
              have q2 := (hb.cell (p := ⟨w2.heap.size, 2, none⟩) (by show w2.heap.size < _; omega)).trans x2
              unfold tabV
              go_simp
            clear hK K
            refine wpQuietIn_step (fun _ _ _ _ => trivial) (fun K hK => ?_)
            go_simp
            refine ⟨.int .i64 ox, fun w' hb => (callsIn_wide.2 (HOX.out w' (by exact (Sr.below hb).ints 1 rfl))).mono ?_, hK _ ?_⟩
            · rintro e w20 ⟨rfl, hb6⟩
              exact ⟨rfl, hb.trans (hb6.mono hb.size)⟩
            clear hK K
            refine wpQuietIn_step (fun _ _ _ _ => trivial) (fun K hK => ?_)
            go_simp
            refine ⟨tabV T a1 c1, fun w' hb => ?_, hK _ ?_⟩
            · have q0 := (hb.cell (p := ⟨w1.heap.size, 0, none⟩) (by show w1.heap.size < _; omega)).trans y0
              have q1 := (hb.cell (p := ⟨w1.heap.size, 1, none⟩) (by show w1.heap.size < _; omega)).trans y1
              have q2 := (hb.cell (p := ⟨w1.heap.size, 2, none⟩) (by show w1.heap.size < _; omega)).trans y2
              unfold tabV
              go_simp
            clear hK K
            refine wpQuietIn_step (fun _ _ _ _ => trivial) (fun K hK => ?_)
            go_simp
            refine ⟨.int .i64 oy, fun w' hb => (callsIn_wide.2 (HOY.out w' (by exact (Sr.below hb).ints 3 rfl))).mono ?_, hK _ ?_⟩
            · rintro e w20 ⟨rfl, hb6⟩
              exact ⟨rfl, hb.trans (hb6.mono hb.size)⟩
            clear hK K
            refine wpQuietIn_step (fun _ _ _ _ => trivial) (fun K hK => ?_)
            go_simp
            refine ⟨_, fun w' hb => rfl, hK _ ?_⟩
            clear hK K
            refine wpQuietIn_step (fun _ _ _ _ => trivial) (fun K hK => ?_)
            go_simp
            refine ⟨_, fun w' hb => rfl, hK _ ?_⟩
            clear hK K
            refine wpQuietIn_step (fun _ _ _ _ => trivial) (fun K hK => ?_)
            go_simp
            refine ⟨tabV X a2 c2, fun w' hb => ?_, hK _ ?_⟩
            · have q0 := (hb.cell (p := ⟨w2.heap.size, 0, none⟩) (by show w2.heap.size < _; omega)).trans x0
              have q1 := (hb.cell (p := ⟨w2.heap.size, 1, none⟩) (by show w2.heap.size < _; omega)).trans x1
              have q2 := (hb.cell (p := ⟨w2.heap.size, 2, none⟩) (by show w2.heap.size < _; omega)).trans x2
              unfold tabV
              go_simp
            clear hK K
            refine wpQuietIn_step (fun _ _ _ _ => trivial) (fun K hK => ?_)
            go_simp
            refine ⟨.int .i64 tx, fun w' hb => (callsIn_wide.2 (HTX.out w' (by exact (Sr.below hb).ints 1 rfl))).mono ?_, hK _ ?_⟩
            · rintro e w20 ⟨rfl, hb6⟩
              exact ⟨rfl, hb.trans (hb6.mono hb.size)⟩
            clear hK K
            refine wpQuietIn_step (fun _ _ _ _ => trivial) (fun K hK => ?_)
            go_simp
            refine ⟨tabV T a1 c1, fun w' hb => ?_, hK _ ?_⟩
            · have q0 := (hb.cell (p := ⟨w1.heap.size, 0, none⟩) (by show w1.heap.size < _; omega)).trans y0
              have q1 := (hb.cell (p := ⟨w1.heap.size, 1, none⟩) (by show w1.heap.size < _; omega)).trans y1
              have q2 := (hb.cell (p := ⟨w1.heap.size, 2, none⟩) (by show w1.heap.size < _; omega)).trans y2
              unfold tabV
              go_simp
            clear hK K
            refine wpQuietIn_step (fun _ _ _ _ => trivial) (fun K hK => ?_)
            go_simp
            refine ⟨.int .i64 tx, fun w' hb => (callsIn_wide.2 (HTY.out w' (by exact (Sr.below hb).ints 3 rfl))).mono ?_, hK _ ?_⟩
            · rintro e w20 ⟨rfl, hb6⟩
              exact ⟨rfl, hb.trans (hb6.mono hb.size)⟩
            clear hK K
            refine wpQuietIn_step (fun _ _ _ _ => trivial) (fun K hK => ?_)
            go_simp
            refine ⟨_, fun w' hb => rfl, hK _ ?_⟩
            clear hK K
            refine wpQuietIn_step (fun _ _ _ _ => trivial) (fun K hK => ?_)
            go_simp
            refine ⟨_, fun w' hb => rfl, hK _ ?_⟩
            clear hK K
            refine wpQuietIn_step (fun _ _ _ _ => trivial) (fun K hK => ?_)
            go_simp
            refine ⟨_, fun w' hb => rfl, hK _ ?_⟩
            clear hK K
            refine fun w10 hb => ?_
            have S9 := Sr.below hb
            go_wp2_with fail
            go_ret
            exact ⟨rfl, S9.old⟩
  · have t1 : decide (1048576 < (ys.length : Int)) = true := by simp; omega
    go_enter Tryz.func4, Tryz.ntmps4
    go_wp2_with fail
    go_ret
    exact ⟨rfl, S0.old⟩

end Go.Proofs.YtblkafmamnimjaaGreatDoor

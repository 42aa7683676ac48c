/-
  The law FnIsFair: the walk.
-/
import Derived.Test.YtblkafmamnimjaaGreatDoorDrawn
import Derived.Test.YtblkafmamnimjaaGreatDoorDraw6D
import Derived.Test.YtblkafmamnimjaaGreatDoorDraws2All
import Derived.Test.YtblkafmamnimjaaGreatDoorFairs2All
import Derived.Test.YtblkafmamnimjaaGreatDoorFairOfS
import Derived.Test.YtblkafmamnimjaaGreatDoorFairAll
import Derived.Test.YtblkafmamnimjaaGreatDoorModel6All
import Derived.Test.YtblkafmamnimjaaGreatDoorMost
import Derived.Test.YtblkafmamnimjaaGreatDoorSame
import Derived.Test.YtblkafmamnimjaaGreatDoorCount
import Derived.Test.YtblkafmamnimjaaGreatDoorMath
namespace Go.Proofs.YtblkafmamnimjaaGreatDoor
open Go.RowKit

theorem sameB_eq {S T : Tab} (h : sameB S T = true) : S = T := by
  simp only [sameB, Bool.and_eq_true, decide_eq_true_eq] at h
  obtain ⟨t, p, zs⟩ := S
  obtain ⟨t', p', zs'⟩ := T
  obtain ⟨h1, h2, h3⟩ := h
  simp only at h1 h2 h3
  rw [h1, h2, h3]
theorem sameB_self (T : Tab) : sameB T T = true := by simp [sameB]
/-- What the law asks of a table. -/
theorem isfair_cases (T : Tab) : (fairB T = true ∧ fofOk T = true ∧ countT T = 0 ∧ sameB (fofT T) T = true) ∨ (fairB T = false ∧ fofOk T = false) ∨
    (fairB T = false ∧ fofOk T = true ∧ countT T ≠ 0) ∨ (fairB T = false ∧ fofOk T = true ∧ countT T = 0 ∧ sameB (fofT T) T = false) := by
  cases hok : fofOk T
  · cases hf : fairB T
    · exact .inr (.inl ⟨rfl, rfl⟩)
    · exfalso
      have hv : validB T = true := (plain_parts (fair_parts hf).1).2.1
      rcases isfair_says hv with ⟨_, h2, _⟩ | ⟨h1, _⟩
      · have e1 : fofOk T = fogOk T := (fof_eq hv).1
        rw [← e1, hok] at h2; cases h2
      · rw [hf] at h1; cases h1
  · have hv : validB T = true := by
      have h := hok
      simp only [fofOk, Bool.and_eq_true] at h
      exact h.1.1
    obtain ⟨e1, e2⟩ := fof_eq hv
    rcases isfair_says hv with ⟨h1, h2, h3, h4⟩ | ⟨h1, h2⟩
    · left
      have e3 : fofT T = T := e2.trans h4
      exact ⟨h1, rfl, h3, by rw [e3]; exact sameB_self T⟩
    · by_cases hc : countT T = 0
      · refine .inr (.inr (.inr ⟨h1, rfl, hc, ?_⟩))
        cases hs : sameB (fofT T) T
        · rfl
        · exact absurd (e2.symm.trans (sameB_eq hs)) (h2 (by have : fofOk T = fogOk T := e1; rw [← this]; exact hok) hc)
      · exact .inr (.inr (.inl ⟨h1, rfl, hc⟩))

set_option maxRecDepth 100000 in
set_option maxHeartbeats 16000000 in
theorem walkFnIsFair (w : World) (a : Option Addr) (len cap : Nat) (zs : List Int) (h : IsRow .u8 w a len cap zs) (a' : Option Addr) (len' cap' : Nat) (zs' : List Int) (h' : IsRow .u8 w a' len' cap' zs') (hL : Laid w) :
    Calls Tryz.prog 3 #[.slice a len cap, .slice a' len' cap'] w fun e w' => e = .returned (.bool true) ∧ Below w.heap.size w w' := by
  obtain ⟨ys, rfl, hC, S0⟩ := came_of h
  obtain ⟨ys', rfl, hC', S0'⟩ := came_of h'
  have SS := (S0'.add (It.bytes w.heap.size a ys) (Nat.le_refl _) (S0.get 0 rfl)).turn (l' := [It.bytes w.heap.size a ys, It.bytes w.heap.size a' ys', It.bytes w.heap.size a' ys']) fun i hi => by
    simp only [List.mem_cons, List.not_mem_nil, or_false] at hi ⊢
    rcases hi with h | h | h
    · exact .inl h
    · exact .inr h
    · exact .inr h
  clear h h' S0'
  by_cases hs : ys.length ≤ 1048576
  · have t1 : decide (1048576 < (ys.length : Int)) = false := by simp; omega
    by_cases hs' : ys'.length ≤ 1048576
    · have t2 : decide (1048576 < (ys'.length : Int)) = false := by simp; omega
      go_enter Tryz.func3, Tryz.ntmps3
      go_wp2_with fail
      refine (DrawIsFair_any (by exact SS) hC).mono ?_
      rintro e w1 ⟨T, a1, c1, lo, hi, rfl, hT, hlo, S1⟩
      obtain ⟨n1, n2⟩ := hT.len
      have hxl := fofT_len T
      have HIF := Lib.hid fun (W : World) (h : IntsAt W a1 T.zs) (hl : Laid W) => IsFair_any T a1 c1 W (by omega) h hl
      have HIS := Lib.hid fun (W : World) (h : IntsAt W a1 T.zs) => specIsFair_any T a1 c1 W (by omega) h
      have HD := Lib.hid fun (W : World) (h : IntsAt W a1 T.zs) (hl : Laid W) => FairOf_any T a1 c1 W (by omega) h hl
      have HC := Lib.hid fun (W : World) h => CountSlots_any T a1 c1 W (by omega) h
      have hcs := isfair_cases T
      generalize fofT T = X at hxl HD hcs
      generalize fofOk T = xok at HD hcs
      generalize fairB T = is at HIF HIS hcs
      generalize countT T = ct at HC hcs
      have HCS := Lib.hid hcs
      clear hcs
      have S2 := S1.alloc #[.int .i64 T.t, .int .i64 T.p, .slice a1 T.zs.length c1] 25
      go_wp2_with fail
      refine (HIF.out _ (by exact S2.ints 1 rfl) (hL.below S2.old hL.pos)).mono ?_
      rintro e w2 ⟨rfl, hb⟩
      have S3 := S1.alloc1 hb
      clear S1 S2 hb
      obtain ⟨x0, x1, x2, x3, x4, x5, xz⟩ := facts3 (S3.cells 0 rfl)
      go_wp2_with fail
      clear x0 x1 x2 x3 x4 x5 xz
      refine (HD.out _ (by exact S3.ints 1 rfl) (hL.below S3.old hL.pos)).mono ?_
      rintro e w3 ⟨a2, c2, rfl, ho, hb⟩
      have S4 : ∃ l2 h2, St w (w3.alloc (.cells #[.int .i64 X.t, .int .i64 X.p, .slice a2 X.zs.length c2] 25)) [It.bytes w.heap.size a' ys', It.bytes w.heap.size a' ys', It.box w3.heap.size #[.int .i64 X.t, .int .i64 X.p, .slice a2 X.zs.length c2] 25, It.own l2 h2 a2 X.zs, It.box w1.heap.size #[.int .i64 T.t, .int .i64 T.p, .slice a1 T.zs.length c1] 25, It.own lo hi a1 T.zs] := ⟨_, _, (((S3.below hb).own ho).alloc _ _).turn fun i hi => by
        simp only [List.mem_cons, List.not_mem_nil, or_false] at hi ⊢
        rcases hi with h | h | h | h | h | h
        · exact .inr (.inr (.inr (.inr (.inl h))))
        · exact .inr (.inr (.inr (.inr (.inl h))))
        · exact .inl h
        · exact .inr (.inl h)
        · exact .inr (.inr (.inl h))
        · exact .inr (.inr (.inr (.inl h)))⟩
      obtain ⟨lX, hX, S4⟩ := S4
      clear S3 ho hb
      go_wp2_with fail
      refine (DrawMostAway_any (by exact S4) hC').mono ?_
      rintro e w4 ⟨Y, a4, c4, lY, hY, rfl, hTY, _, S5⟩
      have S6 := (S5.alloc #[.int .i64 Y.t, .int .i64 Y.p, .slice a4 Y.zs.length c4] 25).turn (l' := [It.bytes w.heap.size a' ys', It.box w4.heap.size #[.int .i64 Y.t, .int .i64 Y.p, .slice a4 Y.zs.length c4] 25, It.own lY hY a4 Y.zs, It.box w3.heap.size #[.int .i64 X.t, .int .i64 X.p, .slice a2 X.zs.length c2] 25, It.own lX hX a2 X.zs, It.box w1.heap.size #[.int .i64 T.t, .int .i64 T.p, .slice a1 T.zs.length c1] 25, It.own lo hi a1 T.zs]) fun i hi => by
        simp only [List.mem_cons, List.not_mem_nil, or_false] at hi ⊢
        rcases hi with h | h | h | h | h | h | h
        · exact .inr (.inr (.inl h))
        · exact .inl h
        · exact .inr (.inl h)
        · exact .inr (.inr (.inr (.inl h)))
        · exact .inr (.inr (.inr (.inr (.inl h))))
        · exact .inr (.inr (.inr (.inr (.inr (.inl h)))))
        · exact .inr (.inr (.inr (.inr (.inr (.inr h)))))
      obtain ⟨m1, m2⟩ := hTY.len
      clear S4 S5 hTY
      go_wp2_with fail
      refine (DrawTotalAway_any (by exact S6) hC').mono ?_
      rintro e w5 ⟨Z, a5, c5, lZ, hZ, rfl, hTZ, _, S7⟩
      have Sr := S7.alloc #[.int .i64 Z.t, .int .i64 Z.p, .slice a5 Z.zs.length c5] 25
      obtain ⟨m3, m4⟩ := hTZ.len
      clear S6 S7 hTZ
      have HMY := Lib.hid fun (W : World) h => MostAway_any Y a4 c4 W (by omega) h
      have HMYS := Lib.hid fun (W : World) h => specMostAway_any Y a4 c4 W (by omega) h
      have HTY := Lib.hid fun (W : World) h => TotalAway_any Y a4 c4 W (by omega) h
      have HTZ := Lib.hid fun (W : World) h => TotalAway_any Z a5 c5 W (by omega) h
      have HTZS := Lib.hid fun (W : World) h => specTotalAway_any Z a5 c5 W (by omega) h
      have hmm := most_max Y
      generalize mostAway Y = my at HMY HMYS hmm
      generalize totalAway Y = ty at HTY hmm
      generalize totalAway Z = tz at HTZ HTZS
      have HSM := Lib.hid fun (W : World) h1 h2 => SameTable_any X T a2 a1 c2 c1 W (by omega) (by omega) h1 h2
      generalize sameB X T = sm at HSM HCS
      have hmix : Tryz.prog.follows .mixedOrders = true := by kernel_rfl
      have B1 : w1.heap.size < (w5.alloc (.cells #[.int .i64 Z.t, .int .i64 Z.p, .slice a5 Z.zs.length c5] 25)).heap.size := Sr.sz 6 rfl
      have B3 : w3.heap.size < (w5.alloc (.cells #[.int .i64 Z.t, .int .i64 Z.p, .slice a5 Z.zs.length c5] 25)).heap.size := Sr.sz 4 rfl
      have B4 : w4.heap.size < (w5.alloc (.cells #[.int .i64 Z.t, .int .i64 Z.p, .slice a5 Z.zs.length c5] 25)).heap.size := Sr.sz 2 rfl
      have B5 : w5.heap.size < (w5.alloc (.cells #[.int .i64 Z.t, .int .i64 Z.p, .slice a5 Z.zs.length c5] 25)).heap.size := Sr.sz 0 rfl
      obtain ⟨z0, z1, z2, z3, z4, z5, zz⟩ := facts3 (Sr.cells 0 rfl)
      obtain ⟨y0, y1, y2, y3, y4, y5, yz⟩ := facts3 (Sr.cells 2 rfl)
      obtain ⟨x0, x1, x2, x3, x4, x5, xz⟩ := facts3 (Sr.cells 4 rfl)
      obtain ⟨t0, t1', t2', t3, t4, t5, tz'⟩ := facts3 (Sr.cells 6 rfl)
      go_wp2_with fail
      generalize w5.alloc (.cells #[.int .i64 Z.t, .int .i64 Z.p, .slice a5 Z.zs.length c5] 25) = W5 at *
      refine (wpIn_wide (n := 9)).1 ?_
      refine wpIn_region_quietR (fun w' => Below W5.heap.size W5 w') hmix (by kernel_rfl) (by kernel_rfl) ((Below.refl _ _).drew) ?_
      refine wpQuietIn_step (fun _ _ _ _ => trivial) (fun K hK => ?_)
      go_simp
      refine ⟨_, fun w' hb => rfl, hK _ ?_⟩
      clear hK K
      refine wpQuietIn_step (fun _ _ _ _ => trivial) (fun K hK => ?_)
      go_simp
      refine ⟨tabV T a1 c1, fun w' hb => ?_, hK _ ?_⟩
      · have q0 := (hb.cell (p := ⟨w1.heap.size, 0, none⟩) (by show w1.heap.size < _; first | omega | (simp only [World.size_alloc]; omega))).trans t0
        have q1 := (hb.cell (p := ⟨w1.heap.size, 1, none⟩) (by show w1.heap.size < _; first | omega | (simp only [World.size_alloc]; omega))).trans t1'
        have q2 := (hb.cell (p := ⟨w1.heap.size, 2, none⟩) (by show w1.heap.size < _; first | omega | (simp only [World.size_alloc]; omega))).trans t2'
        unfold tabV
        go_simp
      clear hK K
      refine wpQuietIn_step (fun _ _ _ _ => trivial) (fun K hK => ?_)
      go_simp
      refine ⟨.bool is, fun w' hb => (callsIn_wide.2 (HIS.out w' (by exact (Sr.below hb).ints 7 rfl))).mono ?_, hK _ ?_⟩
      · rintro e w20 ⟨rfl, hb6⟩
        exact ⟨rfl, hb.trans (hb6.mono hb.size)⟩
      clear hK K
      refine wpQuietIn_step (fun _ _ _ _ => trivial) (fun K hK => ?_)
      go_simp
      refine ⟨_, fun w' hb => rfl, hK _ ?_⟩
      clear hK K
      refine wpQuietIn_step (fun _ _ _ _ => trivial) (fun K hK => ?_)
      go_simp
      refine ⟨_, fun w' hb => rfl, hK _ ?_⟩
      clear hK K
      refine wpQuietIn_step (fun _ _ _ _ => trivial) (fun K hK => ?_)
      go_simp
      refine ⟨tabV Y a4 c4, fun w' hb => ?_, hK _ ?_⟩
      · have q0 := (hb.cell (p := ⟨w4.heap.size, 0, none⟩) (by show w4.heap.size < _; first | omega | (simp only [World.size_alloc]; omega))).trans y0
        have q1 := (hb.cell (p := ⟨w4.heap.size, 1, none⟩) (by show w4.heap.size < _; first | omega | (simp only [World.size_alloc]; omega))).trans y1
        have q2 := (hb.cell (p := ⟨w4.heap.size, 2, none⟩) (by show w4.heap.size < _; first | omega | (simp only [World.size_alloc]; omega))).trans y2
        unfold tabV
        go_simp
      clear hK K
      refine wpQuietIn_step (fun _ _ _ _ => trivial) (fun K hK => ?_)
      go_simp
      refine ⟨.int .i64 my, fun w' hb => (callsIn_wide.2 (HMY.out w' (by exact (Sr.below hb).ints 3 rfl))).mono ?_, hK _ ?_⟩
      · rintro e w20 ⟨rfl, hb6⟩
        exact ⟨rfl, hb.trans (hb6.mono hb.size)⟩
      clear hK K
      refine wpQuietIn_step (fun _ _ _ _ => trivial) (fun K hK => ?_)
      go_simp
      refine ⟨tabV Y a4 c4, fun w' hb => ?_, hK _ ?_⟩
      · have q0 := (hb.cell (p := ⟨w4.heap.size, 0, none⟩) (by show w4.heap.size < _; first | omega | (simp only [World.size_alloc]; omega))).trans y0
        have q1 := (hb.cell (p := ⟨w4.heap.size, 1, none⟩) (by show w4.heap.size < _; first | omega | (simp only [World.size_alloc]; omega))).trans y1
        have q2 := (hb.cell (p := ⟨w4.heap.size, 2, none⟩) (by show w4.heap.size < _; first | omega | (simp only [World.size_alloc]; omega))).trans y2
        unfold tabV
        go_simp
      clear hK K
      refine wpQuietIn_step (fun _ _ _ _ => trivial) (fun K hK => ?_)
      go_simp
      refine ⟨.int .i64 my, fun w' hb => (callsIn_wide.2 (HMYS.out w' (by exact (Sr.below hb).ints 3 rfl))).mono ?_, hK _ ?_⟩
      · rintro e w20 ⟨rfl, hb6⟩
        exact ⟨rfl, hb.trans (hb6.mono hb.size)⟩
      clear hK K
      refine wpQuietIn_step (fun _ _ _ _ => trivial) (fun K hK => ?_)
      go_simp
      refine ⟨_, fun w' hb => rfl, hK _ ?_⟩
      clear hK K
      refine wpQuietIn_step (fun _ _ _ _ => trivial) (fun K hK => ?_)
      go_simp
      refine ⟨_, fun w' hb => rfl, hK _ ?_⟩
      clear hK K
      refine wpQuietIn_step (fun _ _ _ _ => trivial) (fun K hK => ?_)
      go_simp
      refine ⟨_, fun w' hb => rfl, hK _ ?_⟩
      clear hK K
      refine wpQuietIn_step (fun _ _ _ _ => trivial) (fun K hK => ?_)
      go_simp
      refine ⟨tabV Z a5 c5, fun w' hb => ?_, hK _ ?_⟩
      · have q0 := (hb.cell (p := ⟨w5.heap.size, 0, none⟩) (by show w5.heap.size < _; first | omega | (simp only [World.size_alloc]; omega))).trans z0
        have q1 := (hb.cell (p := ⟨w5.heap.size, 1, none⟩) (by show w5.heap.size < _; first | omega | (simp only [World.size_alloc]; omega))).trans z1
        have q2 := (hb.cell (p := ⟨w5.heap.size, 2, none⟩) (by show w5.heap.size < _; first | omega | (simp only [World.size_alloc]; omega))).trans z2
        unfold tabV
        go_simp
      clear hK K
      refine wpQuietIn_step (fun _ _ _ _ => trivial) (fun K hK => ?_)
      go_simp
      refine ⟨.int .i64 tz, fun w' hb => (callsIn_wide.2 (HTZ.out w' (by exact (Sr.below hb).ints 1 rfl))).mono ?_, hK _ ?_⟩
      · rintro e w20 ⟨rfl, hb6⟩
        exact ⟨rfl, hb.trans (hb6.mono hb.size)⟩
      clear hK K
      refine wpQuietIn_step (fun _ _ _ _ => trivial) (fun K hK => ?_)
      go_simp
      refine ⟨tabV Z a5 c5, fun w' hb => ?_, hK _ ?_⟩
      · have q0 := (hb.cell (p := ⟨w5.heap.size, 0, none⟩) (by show w5.heap.size < _; first | omega | (simp only [World.size_alloc]; omega))).trans z0
        have q1 := (hb.cell (p := ⟨w5.heap.size, 1, none⟩) (by show w5.heap.size < _; first | omega | (simp only [World.size_alloc]; omega))).trans z1
        have q2 := (hb.cell (p := ⟨w5.heap.size, 2, none⟩) (by show w5.heap.size < _; first | omega | (simp only [World.size_alloc]; omega))).trans z2
        unfold tabV
        go_simp
      clear hK K
      refine wpQuietIn_step (fun _ _ _ _ => trivial) (fun K hK => ?_)
      go_simp
      refine ⟨.int .i64 tz, fun w' hb => (callsIn_wide.2 (HTZS.out w' (by exact (Sr.below hb).ints 1 rfl))).mono ?_, hK _ ?_⟩
      · rintro e w20 ⟨rfl, hb6⟩
        exact ⟨rfl, hb.trans (hb6.mono hb.size)⟩
      clear hK K
      refine wpQuietIn_step (fun _ _ _ _ => trivial) (fun K hK => ?_)
      go_simp
      refine ⟨_, fun w' hb => rfl, hK _ ?_⟩
      clear hK K
      refine wpQuietIn_step (fun _ _ _ _ => trivial) (fun K hK => ?_)
      go_simp
      refine ⟨_, fun w' hb => rfl, hK _ ?_⟩
      clear hK K
      refine fun w6 hb => ?_
      have S8 := Sr.below hb
      clear Sr hb z0 z1 z2 z3 z4 z5 zz y0 y1 y2 y3 y4 y5 yz x0 x1 x2 x3 x4 x5 xz t0 t1' t2' t3 t4 t5 tz' B1 B3 B4 B5
      obtain ⟨t0, t1', t2', t3, t4, t5, tz'⟩ := facts3 (S8.cells 6 rfl)
      go_wp2_with fail
      clear t0 t1' t2' t3 t4 t5 tz'
      refine (HC.out _ (by exact S8.ints 7 rfl)).mono ?_
      rintro e w7 ⟨rfl, hb⟩
      have Sr := S8.below hb
      clear S8 hb
      have B1 : w1.heap.size < w7.heap.size := Sr.sz 6 rfl
      have B3 : w3.heap.size < w7.heap.size := Sr.sz 4 rfl
      have B4 : w4.heap.size < w7.heap.size := Sr.sz 2 rfl
      have B5 : w5.heap.size < w7.heap.size := Sr.sz 0 rfl
      have dm : decide (my ≤ max ty 0) = true := decide_eq_true hmm
      obtain ⟨z0, z1, z2, z3, z4, z5, zz⟩ := facts3 (Sr.cells 0 rfl)
      obtain ⟨y0, y1, y2, y3, y4, y5, yz⟩ := facts3 (Sr.cells 2 rfl)
      obtain ⟨x0, x1, x2, x3, x4, x5, xz⟩ := facts3 (Sr.cells 4 rfl)
      obtain ⟨t0, t1', t2', t3, t4, t5, tz'⟩ := facts3 (Sr.cells 6 rfl)
      clear HIF HD HC
      rcases HCS.out with ⟨rfl, rfl, rfl, rfl⟩ | ⟨rfl, rfl⟩ | ⟨rfl, rfl, hc⟩ | ⟨rfl, rfl, rfl, rfl⟩
      · clear HCS
        go_wp2_with fail
        refine (wpIn_wide (n := 9)).1 ?_
        refine wpIn_region_quietR (fun w' => Below w7.heap.size w7 w') hmix (by kernel_rfl) (by kernel_rfl) ((Below.refl _ _).drew) ?_
        refine wpQuietIn_step (fun _ _ _ _ => trivial) (fun K hK => ?_)
        go_simp
        refine ⟨_, fun w' hb => rfl, hK _ ?_⟩
        clear hK K
        refine wpQuietIn_step (fun _ _ _ _ => trivial) (fun K hK => ?_)
        go_simp
        refine ⟨_, fun w' hb => rfl, hK _ ?_⟩
        clear hK K
        refine wpQuietIn_step (fun _ _ _ _ => trivial) (fun K hK => ?_)
        go_simp
        refine ⟨_, fun w' hb => rfl, hK _ ?_⟩
        clear hK K
        refine wpQuietIn_step (fun _ _ _ _ => trivial) (fun K hK => ?_)
        go_simp
        refine ⟨_, fun w' hb => rfl, hK _ ?_⟩
        clear hK K
        refine wpQuietIn_step (fun _ _ _ _ => trivial) (fun K hK => ?_)
        go_simp
        refine ⟨_, fun w' hb => rfl, hK _ ?_⟩
        clear hK K
        refine wpQuietIn_step (fun _ _ _ _ => trivial) (fun K hK => ?_)
        go_simp
        refine ⟨_, fun w' hb => rfl, hK _ ?_⟩
        clear hK K
        refine wpQuietIn_step (fun _ _ _ _ => trivial) (fun K hK => ?_)
        go_simp
        refine ⟨_, fun w' hb => rfl, hK _ ?_⟩
        clear hK K
        refine wpQuietIn_step (fun _ _ _ _ => trivial) (fun K hK => ?_)
        go_simp
        refine ⟨tabV X a2 c2, fun w' hb => ?_, hK _ ?_⟩
        · have q0 := (hb.cell (p := ⟨w3.heap.size, 0, none⟩) (by show w3.heap.size < _; first | omega | (simp only [World.size_alloc]; omega))).trans x0
          have q1 := (hb.cell (p := ⟨w3.heap.size, 1, none⟩) (by show w3.heap.size < _; first | omega | (simp only [World.size_alloc]; omega))).trans x1
          have q2 := (hb.cell (p := ⟨w3.heap.size, 2, none⟩) (by show w3.heap.size < _; first | omega | (simp only [World.size_alloc]; omega))).trans x2
          unfold tabV
          go_simp
        clear hK K
        refine wpQuietIn_step (fun _ _ _ _ => trivial) (fun K hK => ?_)
        go_simp
        refine ⟨tabV T a1 c1, fun w' hb => ?_, hK _ ?_⟩
        · have q0 := (hb.cell (p := ⟨w1.heap.size, 0, none⟩) (by show w1.heap.size < _; first | omega | (simp only [World.size_alloc]; omega))).trans t0
          have q1 := (hb.cell (p := ⟨w1.heap.size, 1, none⟩) (by show w1.heap.size < _; first | omega | (simp only [World.size_alloc]; omega))).trans t1'
          have q2 := (hb.cell (p := ⟨w1.heap.size, 2, none⟩) (by show w1.heap.size < _; first | omega | (simp only [World.size_alloc]; omega))).trans t2'
          unfold tabV
          go_simp
        clear hK K
        refine wpQuietIn_step (fun _ _ _ _ => trivial) (fun K hK => ?_)
        go_simp
        refine ⟨.bool true, fun w' hb => (callsIn_wide.2 (HSM.out w' (by exact (Sr.below hb).ints 5 rfl) (by exact (Sr.below hb).ints 7 rfl))).mono ?_, hK _ ?_⟩
        · rintro e w20 ⟨rfl, hb6⟩
          exact ⟨rfl, hb.trans (hb6.mono hb.size)⟩
        clear hK K
        refine wpQuietIn_step (fun _ _ _ _ => trivial) (fun K hK => ?_)
        go_simp
        refine ⟨_, fun w' hb => rfl, hK _ ?_⟩
        clear hK K
        refine wpQuietIn_step (fun _ _ _ _ => trivial) (fun K hK => ?_)
        go_simp
        refine ⟨_, fun w' hb => rfl, hK _ ?_⟩
        clear hK K
        refine wpQuietIn_step (fun _ _ _ _ => trivial) (fun K hK => ?_)
        go_simp
        refine ⟨_, fun w' hb => rfl, hK _ ?_⟩
        clear hK K
        refine wpQuietIn_step (fun _ _ _ _ => trivial) (fun K hK => ?_)
        go_simp
        refine ⟨tabV Y a4 c4, fun w' hb => ?_, hK _ ?_⟩
        · have q0 := (hb.cell (p := ⟨w4.heap.size, 0, none⟩) (by show w4.heap.size < _; first | omega | (simp only [World.size_alloc]; omega))).trans y0
          have q1 := (hb.cell (p := ⟨w4.heap.size, 1, none⟩) (by show w4.heap.size < _; first | omega | (simp only [World.size_alloc]; omega))).trans y1
          have q2 := (hb.cell (p := ⟨w4.heap.size, 2, none⟩) (by show w4.heap.size < _; first | omega | (simp only [World.size_alloc]; omega))).trans y2
          unfold tabV
          go_simp
        clear hK K
        refine wpQuietIn_step (fun _ _ _ _ => trivial) (fun K hK => ?_)
        go_simp
        refine ⟨.int .i64 my, fun w' hb => (callsIn_wide.2 (HMY.out w' (by exact (Sr.below hb).ints 3 rfl))).mono ?_, hK _ ?_⟩
        · rintro e w20 ⟨rfl, hb6⟩
          exact ⟨rfl, hb.trans (hb6.mono hb.size)⟩
        clear hK K
        refine wpQuietIn_step (fun _ _ _ _ => trivial) (fun K hK => ?_)
        go_simp
        refine ⟨tabV Y a4 c4, fun w' hb => ?_, hK _ ?_⟩
        · have q0 := (hb.cell (p := ⟨w4.heap.size, 0, none⟩) (by show w4.heap.size < _; first | omega | (simp only [World.size_alloc]; omega))).trans y0
          have q1 := (hb.cell (p := ⟨w4.heap.size, 1, none⟩) (by show w4.heap.size < _; first | omega | (simp only [World.size_alloc]; omega))).trans y1
          have q2 := (hb.cell (p := ⟨w4.heap.size, 2, none⟩) (by show w4.heap.size < _; first | omega | (simp only [World.size_alloc]; omega))).trans y2
          unfold tabV
          go_simp
        clear hK K
        refine wpQuietIn_step (fun _ _ _ _ => trivial) (fun K hK => ?_)
        go_simp
        refine ⟨.int .i64 ty, fun w' hb => (callsIn_wide.2 (HTY.out w' (by exact (Sr.below hb).ints 3 rfl))).mono ?_, hK _ ?_⟩
        · rintro e w20 ⟨rfl, hb6⟩
          exact ⟨rfl, hb.trans (hb6.mono hb.size)⟩
        clear hK K
        refine wpQuietIn_step (fun _ _ _ _ => trivial) (fun K hK => ?_)
        go_simp
        refine ⟨_, fun w' hb => rfl, hK _ ?_⟩
        clear hK K
        refine wpQuietIn_step (fun _ _ _ _ => trivial) (fun K hK => ?_)
        go_simp
        refine ⟨_, fun w' hb => rfl, hK _ ?_⟩
        clear hK K
        refine wpQuietIn_step (fun _ _ _ _ => trivial) (fun K hK => ?_)
        go_simp
        refine ⟨_, fun w' hb => rfl, hK _ ?_⟩
        clear hK K
        refine wpQuietIn_step (fun _ _ _ _ => trivial) (fun K hK => ?_)
        go_simp
        refine ⟨_, fun w' hb => rfl, hK _ ?_⟩
        clear hK K
        refine fun w30 hb => ?_
        have S9 := Sr.below hb
        go_wp2_with fail
        go_ret
        exact ⟨rfl, S9.old⟩
      · clear HCS
        go_wp2_with fail
        refine (wpIn_wide (n := 9)).1 ?_
        refine wpIn_region_quietR (fun w' => Below w7.heap.size w7 w') hmix (by kernel_rfl) (by kernel_rfl) ((Below.refl _ _).drew) ?_
        refine wpQuietIn_step (fun _ _ _ _ => trivial) (fun K hK => ?_)
        go_simp
        refine ⟨_, fun w' hb => rfl, hK _ ?_⟩
        clear hK K
        refine wpQuietIn_step (fun _ _ _ _ => trivial) (fun K hK => ?_)
        go_simp
        refine ⟨_, fun w' hb => rfl, hK _ ?_⟩
        clear hK K
        refine wpQuietIn_step (fun _ _ _ _ => trivial) (fun K hK => ?_)
        go_simp
        refine ⟨_, fun w' hb => rfl, hK _ ?_⟩
        clear hK K
        refine wpQuietIn_step (fun _ _ _ _ => trivial) (fun K hK => ?_)
        go_simp
        refine hK _ ?_
        clear hK K
        refine wpQuietIn_step (fun _ _ _ _ => trivial) (fun K hK => ?_)
        go_simp
        refine hK _ ?_
        clear hK K
        refine wpQuietIn_step (fun _ _ _ _ => trivial) (fun K hK => ?_)
        go_simp
        refine ⟨_, fun w' hb => rfl, hK _ ?_⟩
        clear hK K
        refine wpQuietIn_step (fun _ _ _ _ => trivial) (fun K hK => ?_)
        go_simp
        refine ⟨_, fun w' hb => rfl, hK _ ?_⟩
        clear hK K
        refine wpQuietIn_step (fun _ _ _ _ => trivial) (fun K hK => ?_)
        go_simp
        refine hK _ ?_
        clear hK K
        refine wpQuietIn_step (fun _ _ _ _ => trivial) (fun K hK => ?_)
        go_simp
        refine hK _ ?_
        clear hK K
        refine wpQuietIn_step (fun _ _ _ _ => trivial) (fun K hK => ?_)
        go_simp
        refine hK _ ?_
        clear hK K
        refine wpQuietIn_step (fun _ _ _ _ => trivial) (fun K hK => ?_)
        go_simp
        refine ⟨_, fun w' hb => rfl, hK _ ?_⟩
        clear hK K
        refine wpQuietIn_step (fun _ _ _ _ => trivial) (fun K hK => ?_)
        go_simp
        refine ⟨_, fun w' hb => rfl, hK _ ?_⟩
        clear hK K
        refine wpQuietIn_step (fun _ _ _ _ => trivial) (fun K hK => ?_)
        go_simp
        refine ⟨_, fun w' hb => rfl, hK _ ?_⟩
        clear hK K
        refine wpQuietIn_step (fun _ _ _ _ => trivial) (fun K hK => ?_)
        go_simp
        refine ⟨tabV Y a4 c4, fun w' hb => ?_, hK _ ?_⟩
        · have q0 := (hb.cell (p := ⟨w4.heap.size, 0, none⟩) (by show w4.heap.size < _; first | omega | (simp only [World.size_alloc]; omega))).trans y0
          have q1 := (hb.cell (p := ⟨w4.heap.size, 1, none⟩) (by show w4.heap.size < _; first | omega | (simp only [World.size_alloc]; omega))).trans y1
          have q2 := (hb.cell (p := ⟨w4.heap.size, 2, none⟩) (by show w4.heap.size < _; first | omega | (simp only [World.size_alloc]; omega))).trans y2
          unfold tabV
          go_simp
        clear hK K
        refine wpQuietIn_step (fun _ _ _ _ => trivial) (fun K hK => ?_)
        go_simp
        refine ⟨.int .i64 my, fun w' hb => (callsIn_wide.2 (HMY.out w' (by exact (Sr.below hb).ints 3 rfl))).mono ?_, hK _ ?_⟩
        · rintro e w20 ⟨rfl, hb6⟩
          exact ⟨rfl, hb.trans (hb6.mono hb.size)⟩
        clear hK K
        refine wpQuietIn_step (fun _ _ _ _ => trivial) (fun K hK => ?_)
        go_simp
        refine ⟨tabV Y a4 c4, fun w' hb => ?_, hK _ ?_⟩
        · have q0 := (hb.cell (p := ⟨w4.heap.size, 0, none⟩) (by show w4.heap.size < _; first | omega | (simp only [World.size_alloc]; omega))).trans y0
          have q1 := (hb.cell (p := ⟨w4.heap.size, 1, none⟩) (by show w4.heap.size < _; first | omega | (simp only [World.size_alloc]; omega))).trans y1
          have q2 := (hb.cell (p := ⟨w4.heap.size, 2, none⟩) (by show w4.heap.size < _; first | omega | (simp only [World.size_alloc]; omega))).trans y2
          unfold tabV
          go_simp
        clear hK K
        refine wpQuietIn_step (fun _ _ _ _ => trivial) (fun K hK => ?_)
        go_simp
        refine ⟨.int .i64 ty, fun w' hb => (callsIn_wide.2 (HTY.out w' (by exact (Sr.below hb).ints 3 rfl))).mono ?_, hK _ ?_⟩
        · rintro e w20 ⟨rfl, hb6⟩
          exact ⟨rfl, hb.trans (hb6.mono hb.size)⟩
        clear hK K
        refine wpQuietIn_step (fun _ _ _ _ => trivial) (fun K hK => ?_)
        go_simp
        refine ⟨_, fun w' hb => rfl, hK _ ?_⟩
        clear hK K
        refine wpQuietIn_step (fun _ _ _ _ => trivial) (fun K hK => ?_)
        go_simp
        refine ⟨_, fun w' hb => rfl, hK _ ?_⟩
        clear hK K
        refine wpQuietIn_step (fun _ _ _ _ => trivial) (fun K hK => ?_)
        go_simp
        refine ⟨_, fun w' hb => rfl, hK _ ?_⟩
        clear hK K
        refine wpQuietIn_step (fun _ _ _ _ => trivial) (fun K hK => ?_)
        go_simp
        refine ⟨_, fun w' hb => rfl, hK _ ?_⟩
        clear hK K
        refine fun w30 hb => ?_
        have S9 := Sr.below hb
        go_wp2_with fail
        go_ret
        exact ⟨rfl, S9.old⟩
      · have dc : (ct == 0) = false := beq_eq_false_iff_ne.2 hc
        clear HCS
        go_wp2_with fail
        refine (wpIn_wide (n := 9)).1 ?_
        refine wpIn_region_quietR (fun w' => Below w7.heap.size w7 w') hmix (by kernel_rfl) (by kernel_rfl) ((Below.refl _ _).drew) ?_
        refine wpQuietIn_step (fun _ _ _ _ => trivial) (fun K hK => ?_)
        go_simp
        refine ⟨_, fun w' hb => rfl, hK _ ?_⟩
        clear hK K
        refine wpQuietIn_step (fun _ _ _ _ => trivial) (fun K hK => ?_)
        go_simp
        refine ⟨_, fun w' hb => rfl, hK _ ?_⟩
        clear hK K
        refine wpQuietIn_step (fun _ _ _ _ => trivial) (fun K hK => ?_)
        go_simp
        refine ⟨_, fun w' hb => rfl, hK _ ?_⟩
        clear hK K
        refine wpQuietIn_step (fun _ _ _ _ => trivial) (fun K hK => ?_)
        go_simp
        refine ⟨_, fun w' hb => rfl, hK _ ?_⟩
        clear hK K
        refine wpQuietIn_step (fun _ _ _ _ => trivial) (fun K hK => ?_)
        go_simp
        refine ⟨_, fun w' hb => rfl, hK _ ?_⟩
        clear hK K
        refine wpQuietIn_step (fun _ _ _ _ => trivial) (fun K hK => ?_)
        go_simp
        refine ⟨_, fun w' hb => rfl, hK _ ?_⟩
        clear hK K
        refine wpQuietIn_step (fun _ _ _ _ => trivial) (fun K hK => ?_)
        go_simp
        refine ⟨_, fun w' hb => rfl, hK _ ?_⟩
        clear hK K
        refine wpQuietIn_step (fun _ _ _ _ => trivial) (fun K hK => ?_)
        go_simp
        refine hK _ ?_
        clear hK K
        refine wpQuietIn_step (fun _ _ _ _ => trivial) (fun K hK => ?_)
        go_simp
        refine hK _ ?_
        clear hK K
        refine wpQuietIn_step (fun _ _ _ _ => trivial) (fun K hK => ?_)
        go_simp
        refine hK _ ?_
        clear hK K
        refine wpQuietIn_step (fun _ _ _ _ => trivial) (fun K hK => ?_)
        go_simp
        refine ⟨_, fun w' hb => rfl, hK _ ?_⟩
        clear hK K
        refine wpQuietIn_step (fun _ _ _ _ => trivial) (fun K hK => ?_)
        go_simp
        refine ⟨_, fun w' hb => rfl, hK _ ?_⟩
        clear hK K
        refine wpQuietIn_step (fun _ _ _ _ => trivial) (fun K hK => ?_)
        go_simp
        refine ⟨_, fun w' hb => rfl, hK _ ?_⟩
        clear hK K
        refine wpQuietIn_step (fun _ _ _ _ => trivial) (fun K hK => ?_)
        go_simp
        refine ⟨tabV Y a4 c4, fun w' hb => ?_, hK _ ?_⟩
        · have q0 := (hb.cell (p := ⟨w4.heap.size, 0, none⟩) (by show w4.heap.size < _; first | omega | (simp only [World.size_alloc]; omega))).trans y0
          have q1 := (hb.cell (p := ⟨w4.heap.size, 1, none⟩) (by show w4.heap.size < _; first | omega | (simp only [World.size_alloc]; omega))).trans y1
          have q2 := (hb.cell (p := ⟨w4.heap.size, 2, none⟩) (by show w4.heap.size < _; first | omega | (simp only [World.size_alloc]; omega))).trans y2
          unfold tabV
          go_simp
        clear hK K
        refine wpQuietIn_step (fun _ _ _ _ => trivial) (fun K hK => ?_)
        go_simp
        refine ⟨.int .i64 my, fun w' hb => (callsIn_wide.2 (HMY.out w' (by exact (Sr.below hb).ints 3 rfl))).mono ?_, hK _ ?_⟩
        · rintro e w20 ⟨rfl, hb6⟩
          exact ⟨rfl, hb.trans (hb6.mono hb.size)⟩
        clear hK K
        refine wpQuietIn_step (fun _ _ _ _ => trivial) (fun K hK => ?_)
        go_simp
        refine ⟨tabV Y a4 c4, fun w' hb => ?_, hK _ ?_⟩
        · have q0 := (hb.cell (p := ⟨w4.heap.size, 0, none⟩) (by show w4.heap.size < _; first | omega | (simp only [World.size_alloc]; omega))).trans y0
          have q1 := (hb.cell (p := ⟨w4.heap.size, 1, none⟩) (by show w4.heap.size < _; first | omega | (simp only [World.size_alloc]; omega))).trans y1
          have q2 := (hb.cell (p := ⟨w4.heap.size, 2, none⟩) (by show w4.heap.size < _; first | omega | (simp only [World.size_alloc]; omega))).trans y2
          unfold tabV
          go_simp
        clear hK K
        refine wpQuietIn_step (fun _ _ _ _ => trivial) (fun K hK => ?_)
        go_simp
        refine ⟨.int .i64 ty, fun w' hb => (callsIn_wide.2 (HTY.out w' (by exact (Sr.below hb).ints 3 rfl))).mono ?_, hK _ ?_⟩
        · rintro e w20 ⟨rfl, hb6⟩
          exact ⟨rfl, hb.trans (hb6.mono hb.size)⟩
        clear hK K
        refine wpQuietIn_step (fun _ _ _ _ => trivial) (fun K hK => ?_)
        go_simp
        refine ⟨_, fun w' hb => rfl, hK _ ?_⟩
        clear hK K
        refine wpQuietIn_step (fun _ _ _ _ => trivial) (fun K hK => ?_)
        go_simp
        refine ⟨_, fun w' hb => rfl, hK _ ?_⟩
        clear hK K
        refine wpQuietIn_step (fun _ _ _ _ => trivial) (fun K hK => ?_)
        go_simp
        refine ⟨_, fun w' hb => rfl, hK _ ?_⟩
        clear hK K
        refine wpQuietIn_step (fun _ _ _ _ => trivial) (fun K hK => ?_)
        go_simp
        refine ⟨_, fun w' hb => rfl, hK _ ?_⟩
        clear hK K
        refine fun w30 hb => ?_
        have S9 := Sr.below hb
        go_wp2_with fail
        go_ret
        exact ⟨rfl, S9.old⟩
      · clear HCS
        go_wp2_with fail
        refine (wpIn_wide (n := 9)).1 ?_
        refine wpIn_region_quietR (fun w' => Below w7.heap.size w7 w') hmix (by kernel_rfl) (by kernel_rfl) ((Below.refl _ _).drew) ?_
        refine wpQuietIn_step (fun _ _ _ _ => trivial) (fun K hK => ?_)
        go_simp
        refine ⟨_, fun w' hb => rfl, hK _ ?_⟩
        clear hK K
        refine wpQuietIn_step (fun _ _ _ _ => trivial) (fun K hK => ?_)
        go_simp
        refine ⟨_, fun w' hb => rfl, hK _ ?_⟩
        clear hK K
        refine wpQuietIn_step (fun _ _ _ _ => trivial) (fun K hK => ?_)
        go_simp
        refine ⟨_, fun w' hb => rfl, hK _ ?_⟩
        clear hK K
        refine wpQuietIn_step (fun _ _ _ _ => trivial) (fun K hK => ?_)
        go_simp
        refine ⟨_, fun w' hb => rfl, hK _ ?_⟩
        clear hK K
        refine wpQuietIn_step (fun _ _ _ _ => trivial) (fun K hK => ?_)
        go_simp
        refine ⟨_, fun w' hb => rfl, hK _ ?_⟩
        clear hK K
        refine wpQuietIn_step (fun _ _ _ _ => trivial) (fun K hK => ?_)
        go_simp
        refine ⟨_, fun w' hb => rfl, hK _ ?_⟩
        clear hK K
        refine wpQuietIn_step (fun _ _ _ _ => trivial) (fun K hK => ?_)
        go_simp
        refine ⟨_, fun w' hb => rfl, hK _ ?_⟩
        clear hK K
        refine wpQuietIn_step (fun _ _ _ _ => trivial) (fun K hK => ?_)
        go_simp
        refine ⟨tabV X a2 c2, fun w' hb => ?_, hK _ ?_⟩
        · have q0 := (hb.cell (p := ⟨w3.heap.size, 0, none⟩) (by show w3.heap.size < _; first | omega | (simp only [World.size_alloc]; omega))).trans x0
          have q1 := (hb.cell (p := ⟨w3.heap.size, 1, none⟩) (by show w3.heap.size < _; first | omega | (simp only [World.size_alloc]; omega))).trans x1
          have q2 := (hb.cell (p := ⟨w3.heap.size, 2, none⟩) (by show w3.heap.size < _; first | omega | (simp only [World.size_alloc]; omega))).trans x2
          unfold tabV
          go_simp
        clear hK K
        refine wpQuietIn_step (fun _ _ _ _ => trivial) (fun K hK => ?_)
        go_simp
        refine ⟨tabV T a1 c1, fun w' hb => ?_, hK _ ?_⟩
        · have q0 := (hb.cell (p := ⟨w1.heap.size, 0, none⟩) (by show w1.heap.size < _; first | omega | (simp only [World.size_alloc]; omega))).trans t0
          have q1 := (hb.cell (p := ⟨w1.heap.size, 1, none⟩) (by show w1.heap.size < _; first | omega | (simp only [World.size_alloc]; omega))).trans t1'
          have q2 := (hb.cell (p := ⟨w1.heap.size, 2, none⟩) (by show w1.heap.size < _; first | omega | (simp only [World.size_alloc]; omega))).trans t2'
          unfold tabV
          go_simp
        clear hK K
        refine wpQuietIn_step (fun _ _ _ _ => trivial) (fun K hK => ?_)
        go_simp
        refine ⟨.bool false, fun w' hb => (callsIn_wide.2 (HSM.out w' (by exact (Sr.below hb).ints 5 rfl) (by exact (Sr.below hb).ints 7 rfl))).mono ?_, hK _ ?_⟩
        · rintro e w20 ⟨rfl, hb6⟩
          exact ⟨rfl, hb.trans (hb6.mono hb.size)⟩
        clear hK K
        refine wpQuietIn_step (fun _ _ _ _ => trivial) (fun K hK => ?_)
        go_simp
        refine ⟨_, fun w' hb => rfl, hK _ ?_⟩
        clear hK K
        refine wpQuietIn_step (fun _ _ _ _ => trivial) (fun K hK => ?_)
        go_simp
        refine ⟨_, fun w' hb => rfl, hK _ ?_⟩
        clear hK K
        refine wpQuietIn_step (fun _ _ _ _ => trivial) (fun K hK => ?_)
        go_simp
        refine ⟨_, fun w' hb => rfl, hK _ ?_⟩
        clear hK K
        refine wpQuietIn_step (fun _ _ _ _ => trivial) (fun K hK => ?_)
        go_simp
        refine ⟨tabV Y a4 c4, fun w' hb => ?_, hK _ ?_⟩
        · have q0 := (hb.cell (p := ⟨w4.heap.size, 0, none⟩) (by show w4.heap.size < _; first | omega | (simp only [World.size_alloc]; omega))).trans y0
          have q1 := (hb.cell (p := ⟨w4.heap.size, 1, none⟩) (by show w4.heap.size < _; first | omega | (simp only [World.size_alloc]; omega))).trans y1
          have q2 := (hb.cell (p := ⟨w4.heap.size, 2, none⟩) (by show w4.heap.size < _; first | omega | (simp only [World.size_alloc]; omega))).trans y2
          unfold tabV
          go_simp
        clear hK K
        refine wpQuietIn_step (fun _ _ _ _ => trivial) (fun K hK => ?_)
        go_simp
        refine ⟨.int .i64 my, fun w' hb => (callsIn_wide.2 (HMY.out w' (by exact (Sr.below hb).ints 3 rfl))).mono ?_, hK _ ?_⟩
        · rintro e w20 ⟨rfl, hb6⟩
          exact ⟨rfl, hb.trans (hb6.mono hb.size)⟩
        clear hK K
        refine wpQuietIn_step (fun _ _ _ _ => trivial) (fun K hK => ?_)
        go_simp
        refine ⟨tabV Y a4 c4, fun w' hb => ?_, hK _ ?_⟩
        · have q0 := (hb.cell (p := ⟨w4.heap.size, 0, none⟩) (by show w4.heap.size < _; first | omega | (simp only [World.size_alloc]; omega))).trans y0
          have q1 := (hb.cell (p := ⟨w4.heap.size, 1, none⟩) (by show w4.heap.size < _; first | omega | (simp only [World.size_alloc]; omega))).trans y1
          have q2 := (hb.cell (p := ⟨w4.heap.size, 2, none⟩) (by show w4.heap.size < _; first | omega | (simp only [World.size_alloc]; omega))).trans y2
          unfold tabV
          go_simp
        clear hK K
        refine wpQuietIn_step (fun _ _ _ _ => trivial) (fun K hK => ?_)
        go_simp
        refine ⟨.int .i64 ty, fun w' hb => (callsIn_wide.2 (HTY.out w' (by exact (Sr.below hb).ints 3 rfl))).mono ?_, hK _ ?_⟩
        · rintro e w20 ⟨rfl, hb6⟩
          exact ⟨rfl, hb.trans (hb6.mono hb.size)⟩
        clear hK K
        refine wpQuietIn_step (fun _ _ _ _ => trivial) (fun K hK => ?_)
        go_simp
        refine ⟨_, fun w' hb => rfl, hK _ ?_⟩
        clear hK K
        refine wpQuietIn_step (fun _ _ _ _ => trivial) (fun K hK => ?_)
        go_simp
        refine ⟨_, fun w' hb => rfl, hK _ ?_⟩
        clear hK K
        refine wpQuietIn_step (fun _ _ _ _ => trivial) (fun K hK => ?_)
        go_simp
        refine ⟨_, fun w' hb => rfl, hK _ ?_⟩
        clear hK K
        refine wpQuietIn_step (fun _ _ _ _ => trivial) (fun K hK => ?_)
        go_simp
        refine ⟨_, fun w' hb => rfl, hK _ ?_⟩
        clear hK K
        refine fun w30 hb => ?_
        have S9 := Sr.below hb
        go_wp2_with fail
        go_ret
        exact ⟨rfl, S9.old⟩
    · have t2 : decide (1048576 < (ys'.length : Int)) = true := by simp; omega
      go_enter Tryz.func3, Tryz.ntmps3
      go_wp2_with fail
      go_ret
      exact ⟨rfl, S0.old⟩
  · have t1 : decide (1048576 < (ys.length : Int)) = true := by simp; omega
    go_enter Tryz.func3, Tryz.ntmps3
    go_wp2_with fail
    go_ret
    exact ⟨rfl, S0.old⟩

end Go.Proofs.YtblkafmamnimjaaGreatDoor

/-
  The program's IsFair.
-/
import Derived.Test.YtdoodkdlfkekmaaDoorPassed
import Derived.Test.YtdoodkdlfkekmaaDoorWideIn
import Derived.Test.YtdoodkdlfkekmaaDoorKeysItM
import Derived.Test.YtdoodkdlfkekmaaDoorFairS
import Derived.Test.YtdoodkdlfkekmaaDoorShiftI
import Derived.Test.YtdoodkdlfkekmaaDoorFindI
namespace Go.Proofs.YtdoodkdlfkekmaaDoor
open Go.RowKit Go.Shelf
attribute [local go_sem] Oper.semAt_some

def FairOut (T : Tab) (w : World) (B : Nat) (c : Code) (W : World) : Prop :=
  c = .ret ∧ fairB T = false ∧ St w W [It.box (w.heap.size + 1) #[.bool false] 4] ∧ B ≤ W.heap.size
theorem FairOut.own {α : Type} {T : Tab} {w : World} {B : Nat} (hB : w.heap.size + 2 ≤ B) (c : Code) : OwnFrom B (fun (_ : α) W => FairOut T w B c W) := by
  rintro s A B' row ⟨h1, h2, h5, h6⟩ hg hr
  exact ⟨h1, h2, h5.grown2 hg (fun k e => ⟨by have := (hr k e).1; omega, fun i hi => .inr (by
      have := (hr k e).1
      simp only [List.mem_cons, List.not_mem_nil, or_false] at hi
      rcases hi with rfl <;> simp [It.box] <;> omega)⟩), Nat.le_trans h6 hg.size⟩

theorem all_false {l : List Int} {p : Int → Bool} {x : Int} (hx : x ∈ l) (h : p x = false) : l.all p = false := by
  cases ha : l.all p
  · rfl
  · have := List.all_eq_true.1 ha x hx
    rw [h] at this; cases this

set_option maxRecDepth 100000 in
set_option maxHeartbeats 4000000 in
theorem IsFair_any (T : Tab) (a : Option Addr) (c : Nat) (w : World) (hx : T.zs.length ≤ 9223372036854775807) (h1 : IntsAt w a T.zs) (hL : Laid w) :
    Calls Tryd.prog 7 #[tabV T a c] w fun e w' => e = .returned (.bool (fairB T)) ∧ Below w.heap.size w w' := by
  have S0 := (((St.start w).read h1).alloc #[.int .i64 T.t, .int .i64 T.p, .slice a T.zs.length c] 27).alloc #[.bool false] 4
  rw [World.size_alloc] at S0
  have HF : Hid (fairB T = (plainB T && decide (-1 ∈ T.zs) && fairTo T T.zs.length)) := Lib.hid rfl
  cases hp : plainB T
  · go_enter Tryd.func7, Tryd.ntmps7
    go_wp2_with fail
    refine (isPlain_any T a c _ hx (by exact S0.reads 2 rfl)).mono ?_
    rw [hp]
    rintro e w1 ⟨rfl, hb⟩
    have S1 := S0.below hb
    clear S0 hb
    obtain ⟨x0, x1, xz⟩ := facts1 (S1.cells 0 rfl)
    go_wp2
    have S2 := S1.setBoxAt 0 rfl 0 (.bool false) (setCell_one0 (S1.cells 0 rfl) _) (by simp [Far, It.box, It.read]) (by omega)
    refine bodyPost_ret (v := .bool false) (by simp [results, Tryd.results7, go_sem, x0, x1]) rfl ⟨by rw [HF.out, hp]; rfl, S2.old⟩
  · cases hd : decide (-1 ∈ T.zs)
    · go_enter Tryd.func7, Tryd.ntmps7
      go_wp2_with fail
      refine (isPlain_any T a c _ hx (by exact S0.reads 2 rfl)).mono ?_
      rw [hp]
      rintro e w1 ⟨rfl, hb⟩
      have S1 := S0.below hb
      clear S0 hb
      obtain ⟨y0, y1, y2, y3, y4, y5, yz⟩ := facts3 (S1.cells 1 rfl)
      go_wp2_with fail
      refine (contains_any T.zs a c (-1) _ hx (by exact S1.reads 2 rfl)).mono ?_
      rintro e w2 ⟨rfl, rfl⟩
      rw [hd]
      obtain ⟨x0, x1, xz⟩ := facts1 (S1.cells 0 rfl)
      have S2 := S1.setBoxAt 0 rfl 0 (.bool false) (setCell_one0 (S1.cells 0 rfl) _) (by simp [Far, It.box, It.read]) (by omega)
      go_wp2
      refine bodyPost_ret (v := .bool false) (by simp [results, Tryd.results7, go_sem, x0, x1]) rfl ⟨by rw [HF.out, hp, hd]; rfl, S2.old⟩
    · obtain ⟨hs, hv, ht⟩ := plain_parts hp
      obtain ⟨⟨l1, l2⟩, _⟩ := valid_facts hv
      have HK : Hid (fairB T = (keysL T.zs).all (goodK T)) := Lib.hid (by rw [HF.out, hp, hd, fair_keys hs]; rfl)
      have HS := Lib.hid hs
      have HV := Lib.hid hv
      have HP := Lib.hid hp
      have HD := Lib.hid hd
      clear ht HF hs hv hp hd
      refine (callsIn_wide (n := 9)).1 ?_
      refine callsIn_of_wp_marks Tryd.func7 rfl trivial ?_ rfl
      simp only [Tryd.ntmps7, List.size_toArray, List.length_cons, List.length_nil, Nat.reduceAdd, Nat.reduceSub, Array.replicate_succ, Array.replicate_zero, List.push_toArray, List.append_toArray, List.nil_append, List.cons_append]
      gi_wp2_with fail
      refine ⟨trivial, (callsIn_wide.2 (isPlain_any T a c _ hx (by exact S0.reads 2 rfl))).mono ?_⟩
      rw [HP.out]
      rintro e w1 ⟨rfl, hb⟩
      have z1 : w.heap.size + 2 ≤ w1.heap.size := by have := hb.size; simpa using this
      have S1 := S0.below hb
      clear S0 hb
      obtain ⟨y0, y1, y2, y3, y4, y5, yz⟩ := facts3 (S1.cells 1 rfl)
      gi_wp2_with fail
      refine ⟨trivial, (callsIn_wide.2 (contains_any T.zs a c (-1) _ hx (by exact S1.reads 2 rfl))).mono ?_⟩
      rintro e w2 ⟨rfl, rfl⟩
      rw [HD.out]
      gi_wp2_with fail
      refine ⟨trivial, (callsIn_wide.2 (laneOf_any T a c _ (by exact S1.reads 2 rfl) HV.out)).mono ?_⟩
      rintro e w3 ⟨g, rfl, hR, hg, hgo, hb⟩
      have S3 := (((S1.below hb).alloc laneZ 48).setRowAt (c' := laneK g T T.zs.length) (by simp [Far, It.box, It.read]; omega) (by have := S1.size; have := hb.size; omega))
      rw [World.setRow_alloc_new] at S3
      clear S1 hb y0 y1 y2 y3 y4 y5 yz
      dsimp only
      apply_assumption
      refine wide_allocIn rfl 48 rfl laneZ laneZero ?_
      refine wide_storeIn rfl (.tmp 3) (.tmp 17) 48 rfl w3.heap.size 48 laneZ (laneK g T T.zs.length) rfl rfl (heap_alloc_last _ _) (by rw [laneSize, laneK_size]) (by rw [laneZ_size, laneK_size]) (laneK_one g T T.zs.length) ?_
      rw [World.setRow_alloc_new]
      have q0 := (lane_cells (S3.cells 0 rfl)).1
      gi_wp2_with fail
      refine ⟨trivial, (callsIn_wide.2 (ringKeys_any _ _ _ _)).mono ?_⟩
      rintro e w4 ⟨rfl, rfl⟩
      gi_wp2_with fail
      have S4 := S3.alloc #[.slice (some ⟨g, 0, none⟩) T.zs.length T.zs.length] 40
      have z3 : w.heap.size + 2 ≤ w3.heap.size := by have := S3.sz 1 rfl; have := S3.sz 0 rfl; simp at *; omega
      have hR4 : RingAt ((w3.alloc (.cells (laneK g T T.zs.length) 48)).alloc (.cells #[.slice (some ⟨g, 0, none⟩) T.zs.length T.zs.length] 40)) g T := (hR.below (((Below.refl _ w3).alloc (Nat.le_refl _) _).alloc (by simp) _) hg)
      have hL4 : Laid ((w3.alloc (.cells (laneK g T T.zs.length) 48)).alloc (.cells #[.slice (some ⟨g, 0, none⟩) T.zs.length T.zs.length] 40)) := hL.below S4.old hL.pos
      simp only [World.size_alloc] at S4
      generalize hW4 : (w3.alloc (.cells (laneK g T T.zs.length) 48)).alloc (.cells #[.slice (some ⟨g, 0, none⟩) T.zs.length T.zs.length] 40) = W4 at S4 hR4 hL4 ⊢
      have z4 : W4.heap.size = w3.heap.size + 2 := by rw [← hW4]; simp
      clear hW4 hR S3 q0
      have hB1 := (facts1 (S4.cells 0 rfl)).1
      refine wpIn_rangeFunc_ownG (n := 9) rfl (by omega) (gf := 32) (lb := #[.pointer (some ⟨w3.heap.size + 1, 0, none⟩)]) rfl trivial (enters_of Tryd.func32 (by kernel_rfl) rfl)
        (ringKeysM_stops 8 (by omega) (w3.heap.size + 1) g T (by omega) W4 (by omega) (by omega) hB1 hR4) KeepBlock.trans (fun W l o o' hl h _ _ => ⟨by simp, keep_put (by omega)⟩) (Below.refl _ _) (fun _ => rfl)
        (fun pre W => Below W4.heap.size W4 W ∧ ∀ x ∈ pre, goodK T x.1 = true)
        (fun c pre W => FairOut T w W4.heap.size c W)
        (OwnFrom.and (ownFrom_below (Nat.le_refl _) (Nat.le_refl _)) (fun _ _ _ _ h _ _ => h))
        (fun c => FairOut.own (by omega) c)
        ⟨Below.refl _ _, fun x hx => by cases hx⟩
        (fun x => { tmps := #[tabV T a c, .pointer (some ⟨w.heap.size, 0, none⟩), .pointer (some ⟨w.heap.size + 1, 0, none⟩), .pointer (some ⟨w3.heap.size, 0, none⟩), .int .i64 x.1, undef, undef, .agg #[.int .i64 T.t, .int .i64 T.p, .slice a T.zs.length c], .bool true, .bool false, .bool false, .pointer (some ⟨w.heap.size, 2, none⟩), .slice a T.zs.length c, .bool true, .bool false, .bool false, .agg #[.int .i64 T.t, .int .i64 T.p, .slice a T.zs.length c], .agg (laneK g T T.zs.length), .pointer (some ⟨w3.heap.size, 0, none⟩), .slice (some ⟨g, 0, none⟩) T.zs.length T.zs.length, .func (.func 32) #[] #[.pointer (some ⟨w3.heap.size + 1, 0, none⟩)], .int .i64 x.1, undef, undef, undef, undef, undef, undef, undef, undef, undef, undef, undef, undef, undef, undef, undef, undef, undef], defers := [] }) ?assign ?body ?done ?stop
      case assign =>
        intro l x W K hK
        gi_wp2
        exact hK
      case body =>
        rintro l pre x W ⟨hB, hgd⟩ hlt
        obtain ⟨k, hk, hf1, hf2, hxk, x0, x9⟩ := key_slot HS.out x.2
        have SW := S4.below hB
        have LW := hL4.below hB (by have := hL.pos; omega)
        have RW := hR4.below hB (by omega)
        have zW := hB.size
        obtain ⟨y0, y1, y2, y3, y4, y5, yz⟩ := facts3 (SW.cells 3 rfl)
        have HX := Lib.hid x.2
        have HG : Hid (goodK T x.1 = decide ((passN T x.1 : Int) = awayOf T k)) := Lib.hid (by unfold goodK; rw [hf2])
        generalize hxx : x.1 = xv at *
        gi_wp2_with fail
        refine ⟨trivial, (CallsIn.inRound l (callsIn_wide.2 (FindKey_any T a c xv _ hx (by exact SW.reads 4 rfl) LW))).mono ?_⟩
        rw [hf1]
        rintro e w5 ⟨rfl, hb5⟩
        gi_wp2_with fail
        have S5 := SW.below hb5
        have R5 := RW.below hb5 (by omega)
        have z5 := hb5.size
        have hLN := S5.cells 1 rfl
        obtain ⟨_, LC, _⟩ := lane_cells hLN
        obtain ⟨_, _, e2⟩ := lzk_at T T.zs.length k hk
        have c2 := LC (k * 3 + 2) (by omega)
        rw [e2] at c2
        obtain ⟨y0, y1, y2, y3, y4, y5, yz⟩ := facts3 (S5.cells 3 rfl)
        have hmix : Tryd.prog.follows .mixedOrders = true := by kernel_rfl
        have k0 : (0 : Int) ≤ (k : Int) := by omega
        have k1 : (k : Int) < 16 := by omega
        rw [show k * 3 + 2 + 1 = 1 + k * 3 + 2 by omega] at c2
        have HST := Lib.hid fun (W' : World) (h : Below w5.heap.size w5 W') => startOf_any T a c xv W' HV.out x0 x9 (by exact (S5.below h).reads 4 rfl)
        have HPA := Lib.hid fun (W' : World) (h : Below w5.heap.size w5 W') => passed_any T g xv W' HV.out (R5.below h (by omega)) (Nat.lt_of_lt_of_le (by omega : g < w5.heap.size) h.size)
        clear LC e2
        generalize awayOf T (k : Int) = aw at *
        generalize passN T xv = pv at *
        generalize homeN T xv = hv at *
        refine wpIn_region_quietR (fun w' => Below w5.heap.size w5 w') hmix (by kernel_rfl) (by kernel_rfl) ((Below.refl _ _).drew) ?_
        refine wpQuietIn_step (fun _ _ _ _ => trivial) (fun K hK => ?_)
        rw [if_pos (by rfl)]
        refine ⟨.agg (laneK g T T.zs.length), quiet_load fun w' hb => wide_load_run (.tmp 3) 48 rfl w3.heap.size 48 _ (0, 0) _ rfl ((hb.block _ (by omega)).trans hLN) Tryd.underlying48 rfl (by rw [laneSize, laneK_size]), hK _ ?_⟩
        clear hK K
        refine wpQuietIn_step (fun _ _ _ _ => trivial) (fun K hK => ?_)
        go_simp
        refine ⟨tabV T a c, fun w' hb => ?_, hK _ ?_⟩
        · have q0 := (hb.cell (p := ⟨w.heap.size, 0, none⟩) (by show w.heap.size < _; omega)).trans y0
          have q1 := (hb.cell (p := ⟨w.heap.size, 1, none⟩) (by show w.heap.size < _; omega)).trans y1
          have q2 := (hb.cell (p := ⟨w.heap.size, 2, none⟩) (by show w.heap.size < _; omega)).trans y2
          unfold tabV
          go_simp
        clear hK K
        refine wpQuietIn_step (fun _ _ _ _ => trivial) (fun K hK => ?_)
        go_simp
        refine ⟨_, fun w' hb => rfl, hK _ ?_⟩
        clear hK K
        refine wpQuietIn_step (fun _ _ _ _ => trivial) (fun K hK => ?_)
        go_simp
        refine ⟨spotV xv hv 0, fun w' hb => (CallsIn.inRound l (callsIn_wide.2 (HST.out w' hb))).mono ?_, hK _ ?_⟩
        · rintro e w6 ⟨rfl, hb6⟩
          exact ⟨rfl, hb.trans (hb6.mono hb.size)⟩
        clear hK K
        refine wpQuietIn_step (fun _ _ _ _ => trivial) (fun K hK => ?_)
        go_simp
        refine ⟨.int .i64 pv, fun w' hb => (CallsIn.inRound l (callsIn_wide.2 (HPA.out w' hb))).mono ?_, hK _ ?_⟩
        · rintro e w6 ⟨rfl, hb6⟩
          exact ⟨rfl, hb.trans (hb6.mono hb.size)⟩
        clear hK K
        refine wpQuietIn_step (fun _ _ _ _ => trivial) (fun K hK => ?_)
        go_simp
        refine ⟨_, fun w' hb => rfl, hK _ ?_⟩
        clear hK K
        refine wpQuietIn_step (fun _ _ _ _ => trivial) (fun K hK => ?_)
        go_simp
        refine ⟨_, fun w' hb => rfl, hK _ ?_⟩
        clear hK K
        refine wpQuietIn_step (fun _ _ _ _ => trivial) (fun K hK => ?_)
        go_simp
        refine ⟨_, fun w' hb => rfl, hK _ ?_⟩
        clear hK K
        refine wpQuietIn_step (fun _ _ _ _ => trivial) (fun K hK => ?_)
        go_simp
        refine ⟨_, fun w' hb => rfl, hK _ ?_⟩
        clear hK K
        refine wpQuietIn_step (fun _ _ _ _ => trivial) (fun K hK => ?_)
        go_simp
        refine ⟨.int .i64 aw, fun w' hb => ?_, hK _ ?_⟩
        · have q0 := (hb.cell (p := ⟨w3.heap.size, 1 + k * 3 + 2, none⟩) (by show w3.heap.size < _; omega)).trans c2
          go_simp
        clear hK K
        refine wpQuietIn_step (fun _ _ _ _ => trivial) (fun K hK => ?_)
        go_simp
        refine ⟨_, fun w' hb => rfl, hK _ ?_⟩
        clear hK K
        refine wpQuietIn_nil ?_
        rintro w6 hb6
        have B6 : Below W4.heap.size W4 w6 := (hB.trans (hb5.mono hB.size)).trans (hb6.mono (by omega))
        have KF : KeepsFrom W4.heap.size W w6 := keepsF_below (hb5.trans (hb6.mono z5))
        have KG : KeepBlock g W w6 := KeepBlock.of_below (hb5.trans (hb6.mono z5)) (by omega)
        have z6 := hb6.size
        clear HST HPA y0 y1 y2 y3 y4 y5 yz c2 SW LW RW R5 hLN
        cases hq : ((pv : Int) != aw)
        · have hg1 : goodK T xv = true := by rw [HG.out]; simpa using hq
          gi_wp2_with fail
          exact ⟨KF, KG, B6, fun y hy => by
            rcases List.mem_append.1 hy with hy | hy
            · exact hgd y hy
            · rw [List.mem_singleton.1 hy, hxx]; exact hg1⟩
        · have hg1 : goodK T xv = false := by rw [HG.out]; simpa using hq
          have S6 := S5.below hb6
          have S7 := S6.setBoxAt 2 rfl 0 (.bool false) (setCell_one0 (S6.cells 2 rfl) _) (by simp [Far, It.box, It.read]; omega) (by omega)
          have O7 : Hid (FairOut T w W4.heap.size .ret (w6.setCell ⟨w.heap.size + 1, 0, none⟩ (.bool false))) := Lib.hid ⟨rfl, by
            rw [HK.out]
            exact all_false HX.out hg1, S7.turn (fun i hi => by
            simp only [List.mem_cons, List.not_mem_nil, or_false] at hi
            subst hi; simp), by have := B6.size; simpa [World.setCell] using this⟩
          have K7 : Hid (KeepsFrom W4.heap.size W (w6.setCell ⟨w.heap.size + 1, 0, none⟩ (.bool false))) := Lib.hid (KF.trans ((KeepsOthers.setCell _ _ _).from _))
          obtain ⟨r0, r1, rz⟩ := facts1 (S6.cells 2 rfl)
          gi_wp2_with fail
          exact ⟨K7.out, O7.out⟩
      case done =>
        rintro D ys W hD hys ⟨hB, hgd⟩ hK
        have hfa : fairB T = true := by
          rw [HK.out, ← hys, List.all_eq_true]
          intro x hx
          obtain ⟨y, hy, rfl⟩ := List.mem_map.1 hx
          exact hgd y hy
        have HFA := Lib.hid hfa
        have SW := S4.below hB
        have S7 := SW.setBoxAt 2 rfl 0 (.bool true) (setCell_one0 (SW.cells 2 rfl) _) (by simp [Far, It.box, It.read]; omega) (by omega)
        have hK' : (W.setCell ⟨w.heap.size + 1, 0, none⟩ (.bool true)).heap[D]? = some (.deferred (some [])) := (KeepsOthers.setCell _ _ _).same D _ hK rfl
        have S8 : St w (W.setCell ⟨w.heap.size + 1, 0, none⟩ (.bool true)) [It.box (w.heap.size + 1) #[.bool true] 4] := S7.turn (fun i hi => by
            simp only [List.mem_cons, List.not_mem_nil, or_false] at hi
            subst hi; simp)
        have S10 := st_put (o := .deferred none) S8 (B := w.heap.size + 2) (D := D) (by simp [It.box]) (by omega) (by omega)
        obtain ⟨r0, r1, rz⟩ := facts1 (SW.cells 2 rfl)
        clear hfa hgd
        gi_wp2_with fail
        refine ⟨by simp, .inl ⟨_, _, rfl, run_takeDeferred hK', ?_⟩⟩
        obtain ⟨a0, _, _⟩ := facts1 (S10.cells 0 rfl)
        exact ⟨.bool true, by simp [results, Tryd.f7, Tryd.results7, go_sem, a0], by rw [HFA.out], S10.old⟩
      case stop =>
        rintro D c' pre W hD _ ⟨rfl, hfa, Sx, hz⟩ hK
        have HFA := Lib.hid hfa
        have S10 := st_put (o := .deferred none) Sx (B := w.heap.size + 2) (D := D) (by simp [It.box]) (by omega) (by omega)
        clear hfa
        gi_wp2_with fail
        refine ⟨by simp, .inl ⟨_, _, rfl, run_takeDeferred hK, ?_⟩⟩
        obtain ⟨a0, _, _⟩ := facts1 (S10.cells 0 rfl)
        exact ⟨.bool false, by simp [results, Tryd.f7, Tryd.results7, go_sem, a0], by rw [HFA.out], S10.old⟩

end Go.Proofs.YtdoodkdlfkekmaaDoor

/-
  HitVisits of the program.
-/
import Derived.Test.YtpncpeokdcolpaaGreatDoorMath
import Derived.Test.YtpncpeokdcolpaaGreatDoorLostI
import Derived.Test.YtpncpeokdcolpaaGreatDoorLooksAll
import Derived.Test.YtpncpeokdcolpaaGreatDoorFairAll
namespace Go.Proofs.YtpncpeokdcolpaaGreatDoor
open Go.RowKit Go.Shelf
attribute [local go_sem] Oper.semAt_some

/-- What HitVisits' variables hold when some keys have been found. -/
abbrev hitIt (T : Tab) (a : Option Addr) (c b vb : Nat) (l : List Int) : List It :=
  [It.box vb #[.int .i64 (hitsL T l)] 3, It.box b #[.int .i64 T.t, .int .i64 T.p, .slice a T.zs.length c] 27, It.read b a T.zs]

theorem hits_slots {T : Tab} (hv : validB T = true) : hitsL T (keysL T.zs) = hitsL T (sortU T.zs) := by
  obtain ⟨_, _, _, hg⟩ := valid_facts hv
  refine hitsL_perm ?_
  rw [← sort_keys hg]
  exact (List.mergeSort_perm _ _).symm

set_option maxRecDepth 100000 in
set_option maxHeartbeats 4000000 in
theorem HitVisits_any (T : Tab) (a : Option Addr) (c : Nat) (w : World) (hx : T.zs.length ≤ 9223372036854775807) (h1 : IntsAt w a T.zs) :
    Calls Tryz.prog 23 #[tabV T a c] w fun e w' => e = .returned (.int .i64 (hitI T)) ∧ Below w.heap.size w w' := by
  have S0 := tabBox c 27 h1
  cases hs : soundB T
  · go_enter Tryz.func23, Tryz.ntmps23
    go_wp2_with fail
    refine (IsSound_any T a c _ hx (by exact S0.reads 1 rfl)).mono ?_
    rw [hs]
    rintro e w1 ⟨rfl, hb⟩
    have S1 := S0.below hb
    go_wp2
    go_ret
    exact ⟨by simp [hitI, hs], S1.old⟩
  · have hv : validB T = true := by
      simp only [soundB, Bool.and_eq_true] at hs
      exact hs.1
    obtain ⟨⟨l1, l2⟩, _⟩ := valid_facts hv
    have R : Hid (hitI T = hitsL T (keysL T.zs)) := Lib.hid (by rw [hits_slots hv]; simp [hitI, hs])
    have HS := Lib.hid hs
    have HV := Lib.hid hv
    clear hs hv
    refine (callsIn_wide (n := 9)).1 ?_
    refine callsIn_of_wp_marks Tryz.func23 rfl trivial ?_ rfl
    simp only [Tryz.ntmps23, List.size_toArray, List.length_cons, List.length_nil, Nat.reduceAdd, Nat.reduceSub, Array.replicate_succ, Array.replicate_zero, List.push_toArray, List.append_toArray, List.nil_append, List.cons_append]
    gi_wp2_with fail
    refine ⟨trivial, (callsIn_wide.2 (IsSound_any T a c _ hx (by exact S0.reads 1 rfl))).mono ?_⟩
    rw [HS.out]
    rintro e w1 ⟨rfl, hb⟩
    have S1 := (S0.below hb).alloc #[.int .i64 0] 3
    have hz1 : w.heap.size + 1 ≤ w1.heap.size := by have := hb.size; simpa using this
    clear S0 hb
    obtain ⟨x0, x1, x2, x3, x4, x5, xz⟩ := facts3 (S1.cells 1 rfl)
    gi_wp2_with fail
    clear x0 x1 x2 x3 x4 x5 xz
    refine ⟨trivial, (callsIn_wide.2 (ringOf_any T a c _ (by exact S1.reads 2 rfl) HV.out)).mono ?_⟩
    rintro e w2 ⟨g, rfl, hg0, hg, hr, hb⟩
    have S2 := S1.below hb
    have z2 : w1.heap.size + 1 ≤ g := by simpa using hg0
    clear S1 hb
    gi_wp2_with fail
    refine ⟨trivial, (callsIn_wide.2 (ringKeys_any _ _ _ _)).mono ?_⟩
    rintro e w3 ⟨rfl, rfl⟩
    gi_wp2_with fail
    have S3 := (S2.below ((Below.refl _ w2).alloc (Nat.le_refl _) (.cells #[.slice (some ⟨g, 0, none⟩) T.zs.length T.zs.length] 52)))
    have hR3 : RingAt (w2.alloc (.cells #[.slice (some ⟨g, 0, none⟩) T.zs.length T.zs.length] 52)) g T := hr.below ((Below.refl _ w2).alloc (Nat.le_refl _) _) hg
    have hBn : (w2.alloc (.cells #[.slice (some ⟨g, 0, none⟩) T.zs.length T.zs.length] 52)).cell? ⟨w2.heap.size, 0, none⟩ = some (.slice (some ⟨g, 0, none⟩) T.zs.length T.zs.length) := by
      have := ((St.start w2).alloc #[.slice (some ⟨g, 0, none⟩) T.zs.length T.zs.length] 52).cells 0 rfl
      exact (facts1 this).1
    generalize hW3 : w2.alloc (.cells #[.slice (some ⟨g, 0, none⟩) T.zs.length T.zs.length] 52) = W3 at S3 hR3 hBn ⊢
    have z3 : W3.heap.size = w2.heap.size + 1 := by rw [← hW3]; simp
    clear hW3 S2 hr
    have hItems : ∀ (s : List (KeyB)), ∀ i ∈ hitIt T a c w.heap.size w1.heap.size (s.map Subtype.val), i.hi ≤ W3.heap.size := fun s i hi => by
      simp only [List.mem_cons, List.not_mem_nil, or_false] at hi
      rcases hi with rfl | rfl | rfl <;> simp [It.box, It.read] <;> omega
    refine wpIn_rangeFunc_ownG (n := 9) rfl (by omega) (gf := 113) (lb := #[.pointer (some ⟨w2.heap.size, 0, none⟩)]) rfl trivial (enters_of Tryz.func113 (by kernel_rfl) rfl)
      (ringKeysB_stops 8 (by omega) w2.heap.size g T (by omega) W3 (by omega) (by omega) hBn hR3) KeepBlock.trans (fun W l o o' hl h _ _ => ⟨by simp, keep_put (by omega)⟩) (Below.refl _ _) (fun _ => rfl)
      (fun pre W => (St w W (hitIt T a c w.heap.size w1.heap.size (pre.map Subtype.val)) ∧ W3.heap.size ≤ W.heap.size) ∧ True)
      (fun _ _ _ => False)
      (st_own hItems (by omega))
      (fun _ _ _ _ _ hs _ _ => hs)
      ⟨⟨S3, Nat.le_refl _⟩, trivial⟩
      (fun x => { tmps := #[tabV T a c, .pointer (some ⟨w.heap.size, 0, none⟩), .int .i64 0, .pointer (some ⟨w1.heap.size, 0, none⟩), .int .i64 x.1, .agg #[.int .i64 T.t, .int .i64 T.p, .slice a T.zs.length c], .bool true, .bool false, .agg #[.int .i64 T.t, .int .i64 T.p, .slice a T.zs.length c], .slice (some ⟨g, 0, none⟩) T.zs.length T.zs.length, .func (.func 113) #[] #[.pointer (some ⟨w2.heap.size, 0, none⟩)], .int .i64 x.1, undef, undef, undef, undef, undef, undef], defers := [] }) ?assign ?body ?done ?stop
    case assign =>
      intro l x W K hK
      gi_wp2
      exact hK
    case body =>
      rintro l pre x W ⟨⟨Sp, hz⟩, _⟩ hlt
      have hky := x.2
      obtain ⟨k0, k9⟩ := inB_iff.1 hky
      have hbd := hitsL_bounds HV.out (l := pre.map Subtype.val) fun y hy => by
        obtain ⟨z, _, rfl⟩ := List.mem_map.1 hy
        exact z.2
      rw [List.length_map] at hbd
      have hvb := visOf_bounds HV.out hky
      have HN : Hid (hitsL T ((pre ++ [x]).map Subtype.val) = hitsL T (pre.map Subtype.val) + visOf T x.1) := Lib.hid (by rw [List.map_append]; exact hitsL_snoc _ _ _)
      obtain ⟨v0, v1, vz⟩ := facts1 (Sp.cells 0 rfl)
      obtain ⟨x0, x1, x2, x3, x4, x5, xz⟩ := facts3 (Sp.cells 1 rfl)
      have HVI := Lib.hid fun (W' : World) (h : Below W.heap.size W W') => VisitsFor_any T a c x.1 W' hx (by exact (Sp.below h).reads 2 rfl)
      have hmix : Tryz.prog.follows .mixedOrders = true := by kernel_rfl
      generalize hxx : x.1 = xv at *
      generalize hitsL T (pre.map Subtype.val) = s at *
      generalize visOf T xv = vv at *
      gi_wp2_with fail
      refine wpIn_region_last (l := [_, _, _, _, _]) (o := _) (fun w' => Below W.heap.size W w') hmix (by kernel_rfl) (by kernel_rfl) (by kernel_rfl) rfl ((Below.refl _ _).drew) ?_
      refine wpQuietIn_step (fun _ _ _ _ => trivial) (fun K hK => ?_)
      go_simp
      refine ⟨.int .i64 s, fun w' hb => ?_, hK _ ?_⟩
      · have q0 := (hb.cell (p := ⟨w1.heap.size, 0, none⟩) (by show w1.heap.size < _; omega)).trans v0
        go_simp
      clear hK K
      refine wpQuietIn_step (fun _ _ _ _ => trivial) (fun K hK => ?_)
      go_simp
      refine ⟨tabV T a c, fun w' hb => ?_, hK _ ?_⟩
      · have q0 := (hb.cell (p := ⟨w.heap.size, 0, none⟩) (by show w.heap.size < _; omega)).trans x0
        have q1 := (hb.cell (p := ⟨w.heap.size, 1, none⟩) (by show w.heap.size < _; omega)).trans x1
        have q2 := (hb.cell (p := ⟨w.heap.size, 2, none⟩) (by show w.heap.size < _; omega)).trans x2
        unfold tabV
        go_simp
      clear hK K
      refine wpQuietIn_step (fun _ _ _ _ => trivial) (fun K hK => ?_)
      go_simp
      refine ⟨_, fun w' hb => rfl, hK _ ?_⟩
      clear hK K
      refine wpQuietIn_step (fun _ _ _ _ => trivial) (fun K hK => ?_)
      go_simp
      refine ⟨.int .i64 vv, fun w' hb => (CallsIn.inRound l (callsIn_wide.2 (HVI.out w' hb))).mono ?_, hK _ ?_⟩
      · rintro e w6 ⟨rfl, hb6⟩
        exact ⟨rfl, hb.trans (hb6.mono hb.size)⟩
      clear hK K
      refine wpQuietIn_step (fun _ _ _ _ => trivial) (fun K hK => ?_)
      go_simp
      refine ⟨.int .i64 (s + vv), fun w' hb => ?_, hK _ ?_⟩
      · have hw : IntKind.i64.wrap (s + vv) = s + vv := IntWalk.i64_in _ ⟨by omega, by omega⟩
        go_simp
      clear hK K
      refine wpQuietIn_nil ?_
      rintro w8 hb8
      have S8 := Sp.below hb8
      have z8 := hb8.size
      have S9 := S8.setBoxAt 0 rfl (c' := #[.int .i64 (s + vv)]) 0 (.int .i64 (s + vv)) (setCell_at (S8.cells 0 rfl) 0 _) (by simp [Far, It.box, It.read]; omega) (by omega)
      have K9 : KeepsFrom W3.heap.size W (w8.setCell ⟨w1.heap.size, 0, none⟩ (.int .i64 (s + vv))) := (KeepsFrom.of_below hb8).trans ((KeepsOthers.setCell _ _ _).from _)
      have G9 : KeepBlock g W (w8.setCell ⟨w1.heap.size, 0, none⟩ (.int .i64 (s + vv))) := (KeepBlock.of_below hb8 (by omega)).trans ⟨by simp [World.setCell], Below.heap_setCell _ _ _ g (by show g ≠ w1.heap.size; omega)⟩
      obtain ⟨v0, v1, vz⟩ := facts1 (S8.cells 0 rfl)
      go_simp
      exact ⟨K9, G9, ⟨by unfold hitIt; rw [HN.out]; exact S9, by simpa [World.setCell] using Nat.le_trans hz z8⟩, trivial⟩
    case done =>
      rintro D ys W hD hys ⟨⟨Sp, hz⟩, _⟩ hK
      rw [hys] at Sp
      obtain ⟨v0, v1, vz⟩ := facts1 (Sp.cells 0 rfl)
      have S10 := st_put (o := .deferred none) Sp (B := W3.heap.size) (D := D) (by
        intro i hi
        simp only [List.mem_cons, List.not_mem_nil, or_false] at hi
        rcases hi with rfl | rfl | rfl <;> simp [It.box, It.read] <;> omega) (by omega) hD
      gi_wp2_with fail
      refine ⟨by simp, .inl ⟨_, _, rfl, run_takeDeferred hK, ?_⟩⟩
      refine ⟨_, results_tmp rfl _ _ _, by rw [R.out]; rfl, S10.old⟩
    case stop =>
      rintro D c pre W _ _ h _
      exact h.elim

end Go.Proofs.YtpncpeokdcolpaaGreatDoor

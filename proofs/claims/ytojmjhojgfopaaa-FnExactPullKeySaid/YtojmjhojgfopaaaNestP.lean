/-
  PullKey, of the program and of the model.
-/
import Derived.Test.YtojmjhojgfopaaaNestF
import Derived.Test.YtojmjhojgfopaaaNestSF
import Derived.Test.YtojmjhojgfopaaaCopy
import Derived.Test.YtojmjhojgfopaaaShelf
import Derived.Test.YtojmjhojgfopaaaShelf2
import Derived.Test.YtojmjhojgfopaaaDrawS
namespace Go.Proofs.Ytojmjhojgfopaaa
open Go.RowKit

theorem cloneN_any (zs : List Int) (a : Option Addr) (c : Nat) (w : World) (l1 : 1 ≤ zs.length) (l2 : zs.length ≤ 16) (h : IntsAt w a zs) :
    Calls Try.prog 60 #[.slice a zs.length c] w fun e w' => ∃ g k, e = .returned (.slice (some ⟨g, 0, none⟩) zs.length k) ∧ OwnInts w' w.heap.size (some ⟨g, 0, none⟩) zs ∧ Below w.heap.size w w' := by
  obtain ⟨b, o, rfl, hc⟩ := h (by omega)
  refine (Try.slices_Clone_int b o zs.length c zs _ (Nat.le_refl _) (by omega) (fun j hj => by exact hc j hj)).mono ?_
  rintro e w2 ⟨v', rfl, hown, _, hb⟩
  obtain ⟨g, c', rfl⟩ := ownsRow_pos hown (by omega)
  rw [List.take_length] at hown
  exact ⟨g, c', rfl, ownsRow_ints hown, hb⟩

theorem nstOk_no {N : Nst} {ok : Bool} {w w' : World} (h : N = zeroN) (hk : ok = false) (hb : Below w.heap.size w w') : NstOk N ok w (.returned (.tuple #[.agg #[.int .i64 0, .int .i64 0, .int .i64 0, .int .i64 0, .slice none 0 0], .bool false])) w' := by
  subst h hk
  exact ⟨none, 0, rfl, OwnInts.nil _ _, hb⟩

set_option maxHeartbeats 2000000 in
theorem PullKey_any (N : Nst) (a : Option Addr) (c : Nat) (key : Int) (w : World) (hx : N.zs.length ≤ 9223372036854775807) (h1 : IntsAt w a N.zs) :
    Calls Try.prog 35 #[nstV N a c, .int .i64 key] w (NstOk (pullN N key) (hasN N key) w) := by
  have S0 := (((St.start w).read h1).alloc (nstC N a c) 25).alloc nstZ 25
  simp only [World.size_alloc] at S0
  obtain ⟨x0, x1, x2, x3, x4, xz⟩ := facts5 (S0.cells 1 rfl)
  cases ho : hasN N key
  · have R : Hid (pullN N key = zeroN) := Lib.hid (pull_no ho)
    go_enter Try.func35, Try.ntmps35
    go_wp2_with fail
    clear x0 x1 x2 x3 x4 xz
    refine (FindNest_any N a c key _ hx (by exact S0.reads 2 rfl)).mono ?_
    rw [ho]
    rintro e w1 ⟨rfl, hb⟩
    have S1 := S0.below hb
    clear S0 hb
    obtain ⟨y0, y1, y2, y3, y4, _⟩ := facts5 (S1.cells 0 rfl)
    obtain ⟨f0, f1, f2, f3, f4⟩ := free5 (S1.cells 0 rfl)
    have S2 := S1.nest5 0 rfl (.int .i64 0) (.int .i64 0) (.int .i64 0) (.int .i64 0) (.slice none 0 0) (by simp [Far, It.own, It.box, It.read] <;> omega) (by omega)
    obtain ⟨r0, r1, r2, r3, r4, _⟩ := facts5 (S2.cells 0 rfl)
    go_wp2_with fail
    refine bodyPost_ret (v := .tuple #[.agg #[.int .i64 0, .int .i64 0, .int .i64 0, .int .i64 0, .slice none 0 0], .bool false]) (by simp [results, Try.results35, go_sem, r0, r1, r2, r3, r4]) rfl (nstOk_no R.out rfl S2.old)
  · obtain ⟨ha, k, hk, hlt⟩ := has_parts ho
    obtain ⟨-, -, l1, l2⟩ := askN_len ha
    have R : Hid (pullN N key = ⟨N.t, N.p, N.m, N.g, N.zs.set k (-1)⟩) := Lib.hid (pull_yes hk).1
    have HF := Lib.hid fun (W : World) (h : IntsAt W a N.zs) => FindNest_any N a c key W hx h
    rw [hk, ho] at HF
    clear ha hk
    go_enter Try.func35, Try.ntmps35
    go_wp2_with fail
    clear x0 x1 x2 x3 x4 xz
    refine (HF.out _ (by exact S0.reads 2 rfl)).mono ?_
    rintro e w1 ⟨rfl, hb⟩
    have S1 := S0.below hb
    clear S0 hb
    obtain ⟨x0, x1, x2, x3, x4, _⟩ := facts5 (S1.cells 1 rfl)
    go_wp2_with fail
    clear x0 x1 x2 x3 x4
    refine (cloneN_any N.zs a c _ l1 l2 (by exact S1.reads 2 rfl)).mono ?_
    rintro e w2 ⟨g, c', rfl, ho', hb⟩
    have S2 := (S1.below hb).own ho'
    have z2 : w.heap.size + 1 + 1 ≤ w1.heap.size := S1.sz 0 rfl
    have hg := (S2.owns 0 rfl).1 _ rfl
    clear S1 ho' hb
    have n1 : g ≠ w.heap.size := by have := hg.1; simp only at this; omega
    have n2 : g ≠ w.heap.size + 1 := by have := hg.1; simp only at this; omega
    have k0 : (0 : Int) ≤ (k : Int) := by omega
    have k1 : (k : Int) < (N.zs.length : Int) := by omega
    obtain ⟨b', o', e, hc, hf⟩ := (S2.owns 0 rfl).2 (by omega)
    cases e
    have q := hc k hlt
    have f := hf k hlt
    rw [Nat.zero_add] at q f
    clear hc hf
    obtain ⟨x0, x1, x2, x3, x4, _⟩ := facts5 (S2.cells 2 rfl)
    obtain ⟨f0, f1, f2, f3, f4⟩ := free5 (S2.cells 2 rfl)
    obtain ⟨y0, y1, y2, y3, y4, _⟩ := facts5 (S2.cells 1 rfl)
    obtain ⟨g0, g1, g2, g3, g4⟩ := free5 (S2.cells 1 rfl)
    have S3 := S2.putN 2 rfl 4 (.slice (some ⟨g, 0, none⟩) N.zs.length c') (by simp [Far, It.own, It.box, It.read] <;> omega) (by omega)
    simp only [List.set_cons_zero, List.set_cons_succ] at S3
    have S4 := S3.storeOwn 0 k hlt rfl (by simp [Far, It.own, It.box, It.read] <;> omega) (by omega) (-1)
    simp only [List.set_cons_zero, List.set_cons_succ] at S4
    have S5 := S4.nest5 1 rfl (.int .i64 N.t) (.int .i64 N.p) (.int .i64 N.m) (.int .i64 N.g) (.slice (some ⟨g, 0, none⟩) N.zs.length c') (by simp [Far, It.own, It.box, It.read] <;> omega) (by omega)
    simp only [List.set_cons_zero, List.set_cons_succ] at S5
    obtain ⟨r0, r1, r2, r3, r4, _⟩ := facts5 (S5.cells 1 rfl)
    go_wp2_with fail
    refine bodyPost_ret (v := .tuple #[.agg #[.int .i64 N.t, .int .i64 N.p, .int .i64 N.m, .int .i64 N.g, .slice (some ⟨g, 0, none⟩) N.zs.length c'], .bool true]) (by simp [results, Try.results35, go_sem, r0, r1, r2, r3, r4]) rfl ?_
    rw [R.out]
    exact ⟨some ⟨g, 0, none⟩, c', by simp, (S5.owns 0 rfl).mono (by omega), S5.old⟩

set_option maxHeartbeats 2000000 in
theorem l9Copy_any (N : Nst) (a : Option Addr) (c : Nat) (w : World) (h1 : 1 ≤ N.zs.length) (hn : N.zs.length ≤ 100) (h : IntsAt w a N.zs) :
    Calls Try.prog 59 #[nstV N a c] w fun e w' => ∃ g c', e = .returned (nstV N (some ⟨g, 0, none⟩) c') ∧ OwnInts w' w.heap.size (some ⟨g, 0, none⟩) N.zs ∧ Below w.heap.size w w' := by
  obtain ⟨i0, hi, hz0, hz1, hz2⟩ := info_parts Try.info3
  have HI := Lib.hid hi; have HZ0 := Lib.hid hz0; have HZ1 := Lib.hid hz1; have HZ2 := Lib.hid hz2
  clear hi hz0 hz1 hz2
  have S0 := (((St.start w).read h).alloc (nstC N a c) 25).alloc nstZ 25
  rw [World.size_alloc] at S0
  obtain ⟨b, o, rfl, hc⟩ := h (by omega)
  have hown := row_start ((w.alloc (.cells (nstC N (some ⟨b, o, none⟩) c) 25)).alloc (.cells nstZ 25))
  have S1 := S0.below ((Below.refl _ _).alloc (Nat.le_refl _) (.cells #[] 3))
  simp only [World.size_alloc] at hown S1
  have hc2 : Hid (∀ (j : Nat) (u : Value), (N.zs.map (Value.int .i64))[j]? = some u → (((w.alloc (.cells (nstC N (some ⟨b, o, none⟩) c) 25)).alloc (.cells nstZ 25)).alloc (.cells #[] 3)).cell? ((⟨b, o, none⟩ : Addr).add j) = some u) := Lib.hid (by
    intro j u hj
    have hj' : j < N.zs.length := by have := (List.getElem?_eq_some_iff.1 hj).1; simpa using this
    obtain ⟨b', o', e, h5⟩ := (S1.reads 2 rfl) (by omega)
    cases e
    rw [List.getElem?_map, List.getElem?_eq_getElem hj'] at hj
    have h6 := h5 j hj'
    rw [List.getElem?_eq_getElem hj'] at h6
    simp at hj h6
    rw [show (⟨b, o, none⟩ : Addr).add j = ⟨b, o + j, none⟩ by simp [Addr.add], h6, hj])
  have HO := Lib.hid hown
  clear hown hc
  go_enter Try.func59, Try.ntmps59
  go_wp2_with (at_builtin; refine wpList_append_own _ rfl _ _ 23 rfl (w.heap.size + 1 + 1) 3 i0 (.int .i64 0) 1 8 Try.underlying23 HI.out HZ0.out HZ1.out HZ2.out rfl (by decide) _ _ _ rfl HO.out ⟨b, o, none⟩ N.zs.length c (N.zs.map (Value.int .i64)) rfl (by simp) hc2.out (by intro u hu; obtain ⟨x, _, rfl⟩ := List.mem_map.1 hu; rfl) (by unfold maxLen; omega) (by omega) (by simp) ?_)
  intro v' w5 hown5 hg5 _
  obtain ⟨g, c', rfl⟩ := ownsRow_pos hown5 (by omega)
  have e0 : w5.heap[w.heap.size]? = _ := (hg5.block _ (by simp; omega) (by simp [Value.ownBlock]; omega)).trans (S1.cells 1 rfl)
  have e1 : w5.heap[w.heap.size + 1]? = _ := (hg5.block _ (by simp) (by simp [Value.ownBlock])).trans (S1.cells 0 rfl)
  have B5 : Below w.heap.size w w5 := S1.old.trans (grownBy_below hg5 (by simp; omega) (fun k e => by simp [Value.ownBlock] at e; omega))
  have HO5 := ownsRow_ints hown5
  have hz5 := hg5.size
  simp only [World.size_alloc] at hz5
  have HO6 : OwnInts w5 (w.heap.size + 1 + 1) (some ⟨g, 0, none⟩) N.zs := HO5
  have S5 : St w w5 [It.own (w.heap.size + 1 + 1) w5.heap.size (some ⟨g, 0, none⟩) N.zs, It.box (w.heap.size + 1) nstZ 25, It.box w.heap.size (nstC N (some ⟨b, o, none⟩) c) 25] := by
    refine ⟨B5, fun i hi => ?_⟩
    simp only [List.mem_cons, List.not_mem_nil, or_false] at hi
    rcases hi with rfl | rfl | rfl
    · exact ⟨Nat.le_refl _, HO6, fun p hp => (HO6.1 p hp).2⟩
    · exact ⟨by show w.heap.size + 1 + 1 ≤ _; omega, e1⟩
    · exact ⟨by show w.heap.size + 1 ≤ _; omega, e0⟩
  clear hown5 hg5 e0 e1 S0 S1 HO hc2 B5 HO5 HO6
  obtain ⟨x0, x1, x2, x3, x4, _⟩ := facts5 (S5.cells 2 rfl)
  obtain ⟨f0, f1, f2, f3, f4⟩ := free5 (S5.cells 2 rfl)
  obtain ⟨y0, y1, y2, y3, y4, _⟩ := facts5 (S5.cells 1 rfl)
  obtain ⟨g0, g1, g2, g3, g4⟩ := free5 (S5.cells 1 rfl)
  have S6 := S5.putN 2 rfl 4 (.slice (some ⟨g, 0, none⟩) N.zs.length c') (by simp [Far, It.own, It.box, It.read] <;> omega) (by omega)
  simp only [List.set_cons_zero, List.set_cons_succ] at S6
  have S7 := S6.nest5 1 rfl (.int .i64 N.t) (.int .i64 N.p) (.int .i64 N.m) (.int .i64 N.g) (.slice (some ⟨g, 0, none⟩) N.zs.length c') (by simp [Far, It.own, It.box, It.read] <;> omega) (by omega)
  simp only [List.set_cons_zero, List.set_cons_succ] at S7
  obtain ⟨r0, r1, r2, r3, r4, _⟩ := facts5 (S7.cells 1 rfl)
  go_wp2
  refine bodyPost_ret (v := nstV N (some ⟨g, 0, none⟩) c') (by simp [results, Try.results59, go_sem, r0, r1, r2, r3, r4]) rfl ⟨g, c', rfl, (S7.owns 0 rfl).mono (by omega), S7.old⟩

set_option maxHeartbeats 2000000 in
theorem specPullKey_any (N : Nst) (a : Option Addr) (c : Nat) (key : Int) (w : World) (hx : N.zs.length ≤ 9223372036854775807) (h1 : IntsAt w a N.zs) :
    Calls Try.prog 34 #[nstV N a c, .int .i64 key] w (NstOk (pullN N key) (hasN N key) w) := by
  have S0 := (((St.start w).read h1).alloc (nstC N a c) 25).alloc nstZ 25
  simp only [World.size_alloc] at S0
  obtain ⟨x0, x1, x2, x3, x4, xz⟩ := facts5 (S0.cells 1 rfl)
  cases ho : hasN N key
  · have R : Hid (pullN N key = zeroN) := Lib.hid (pull_no ho)
    go_enter Try.func34, Try.ntmps34
    go_wp2_with fail
    clear x0 x1 x2 x3 x4 xz
    refine (specFindNest_any N a c key _ hx (by exact S0.reads 2 rfl)).mono ?_
    rw [ho]
    rintro e w1 ⟨rfl, hb⟩
    have S1 := S0.below hb
    clear S0 hb
    obtain ⟨y0, y1, y2, y3, y4, _⟩ := facts5 (S1.cells 0 rfl)
    obtain ⟨f0, f1, f2, f3, f4⟩ := free5 (S1.cells 0 rfl)
    have S2 := S1.nest5 0 rfl (.int .i64 0) (.int .i64 0) (.int .i64 0) (.int .i64 0) (.slice none 0 0) (by simp [Far, It.own, It.box, It.read] <;> omega) (by omega)
    obtain ⟨r0, r1, r2, r3, r4, _⟩ := facts5 (S2.cells 0 rfl)
    go_wp2_with fail
    refine bodyPost_ret (v := .tuple #[.agg #[.int .i64 0, .int .i64 0, .int .i64 0, .int .i64 0, .slice none 0 0], .bool false]) (by simp [results, Try.results34, go_sem, r0, r1, r2, r3, r4]) rfl (nstOk_no R.out rfl S2.old)
  · obtain ⟨ha, k, hk, hlt⟩ := has_parts ho
    obtain ⟨-, -, l1, l2⟩ := askN_len ha
    have R : Hid (pullN N key = ⟨N.t, N.p, N.m, N.g, N.zs.set k (-1)⟩) := Lib.hid (pull_yes hk).1
    have HF := Lib.hid fun (W : World) (h : IntsAt W a N.zs) => specFindNest_any N a c key W hx h
    rw [hk, ho] at HF
    clear ha hk
    go_enter Try.func34, Try.ntmps34
    go_wp2_with fail
    clear x0 x1 x2 x3 x4 xz
    refine (HF.out _ (by exact S0.reads 2 rfl)).mono ?_
    rintro e w1 ⟨rfl, hb⟩
    have S1 := S0.below hb
    clear S0 hb
    obtain ⟨x0, x1, x2, x3, x4, _⟩ := facts5 (S1.cells 1 rfl)
    go_wp2_with fail
    clear x0 x1 x2 x3 x4
    refine (l9Copy_any N a c _ l1 (by omega) (by exact S1.reads 2 rfl)).mono ?_
    rintro e w2 ⟨g, c', rfl, ho', hb⟩
    have S2 := ((S1.below hb).own ho').alloc (nstC N (some ⟨g, 0, none⟩) c') 25
    have z2 : w.heap.size + 1 + 1 ≤ w1.heap.size := S1.sz 0 rfl
    have S4 := (((S1.below hb).own ho').storeOwn 0 k hlt rfl (by simp [Far, It.own, It.box, It.read] <;> omega) (by have := hb.size; have := S1.size; omega) (-1)).alloc (nstC N (some ⟨g, 0, none⟩) c') 25
    have ew : (w2.setCell ⟨g, k, none⟩ (.int .i64 (-1))).heap.size = w2.heap.size := by simp [World.setCell]
    simp only [List.set_cons_zero, List.set_cons_succ, ew] at S4
    clear ew
    have hg := (S2.owns 1 rfl).1 _ rfl
    have hg2 := ho'.1 _ rfl
    have z3 := hb.size
    clear S1 ho' hb
    have n1 : g ≠ w2.heap.size := by have := hg2.2; simp only at this; omega
    have n2 : g ≠ w.heap.size + 1 := by have := hg.1; simp only at this; omega
    have k0 : (0 : Int) ≤ (k : Int) := by omega
    have k1 : (k : Int) < (N.zs.length : Int) := by omega
    obtain ⟨b', o', e, hc, hf⟩ := (S2.owns 1 rfl).2 (by omega)
    cases e
    have q := hc k hlt
    have f := hf k hlt
    rw [Nat.zero_add] at q f
    clear hc hf
    obtain ⟨x0, x1, x2, x3, x4, _⟩ := facts5 (S2.cells 0 rfl)
    obtain ⟨u0, u1, u2, u3, u4, _⟩ := facts5 (S4.cells 0 rfl)
    obtain ⟨y0, y1, y2, y3, y4, _⟩ := facts5 (S4.cells 2 rfl)
    obtain ⟨g0, g1, g2, g3, g4⟩ := free5 (S4.cells 2 rfl)
    have S5 := S4.nest5 2 rfl (.int .i64 N.t) (.int .i64 N.p) (.int .i64 N.m) (.int .i64 N.g) (.slice (some ⟨g, 0, none⟩) N.zs.length c') (by simp [Far, It.own, It.box, It.read] <;> omega) (by omega)
    simp only [List.set_cons_zero, List.set_cons_succ] at S5
    obtain ⟨r0, r1, r2, r3, r4, _⟩ := facts5 (S5.cells 2 rfl)
    go_wp2_with fail
    refine bodyPost_ret (v := .tuple #[.agg #[.int .i64 N.t, .int .i64 N.p, .int .i64 N.m, .int .i64 N.g, .slice (some ⟨g, 0, none⟩) N.zs.length c'], .bool true]) (by simp [results, Try.results34, go_sem, r0, r1, r2, r3, r4]) rfl ?_
    rw [R.out]
    exact ⟨some ⟨g, 0, none⟩, c', by simp, (S5.owns 1 rfl).mono (by omega), S5.old⟩

end Go.Proofs.Ytojmjhojgfopaaa

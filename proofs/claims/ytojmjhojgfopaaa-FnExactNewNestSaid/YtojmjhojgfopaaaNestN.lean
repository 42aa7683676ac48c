/-
  NewNest, of the program and of the model, and its exact law's walk.
-/
import Derived.Test.YtojmjhojgfopaaaNestV
import Derived.Test.YtojmjhojgfopaaaNestX
import Derived.Test.YtojmjhojgfopaaaNew
namespace Go.Proofs.Ytojmjhojgfopaaa
open Go.RowKit

/-- A nest, if it is valid. -/
def ofN (N : Nst) : Nst := if nestB N then N else zeroN
theorem ofN_yes {N : Nst} (h : nestB N = true) : ofN N = N := by simp [ofN, h]
theorem ofN_no {N : Nst} (h : nestB N = false) : ofN N = zeroN := by simp [ofN, h]
abbrev nestT (T : Tab) (m g : Int) : Nst := ⟨T.t, T.p, m, g, T.zs⟩
theorem new_of (s t p m g : Int) : nestB (nestT (newTab s t p) m g) = newOkN s t p m g ∧ ofN (nestT (newTab s t p) m g) = newNst s t p m g := by
  cases h : headB s t p
  · have e : newTab s t p = ⟨0, 0, []⟩ := by simp [newTab, h]
    have h1 : nestB (nestT (newTab s t p) m g) = false := by rw [e]; exact zero_nest
    have h2 : newOkN s t p m g = false := by simp [newOkN, h]
    exact ⟨by rw [h1, h2], by rw [ofN_no h1, newN_no h2]⟩
  · have e : newTab s t p = ⟨t, p, List.replicate s.toNat (-1)⟩ := by simp [newTab, h]
    have hs := inB_iff.1 (head_size h).1
    have es : ((s.toNat : Nat) : Int) = s := by omega
    have h1 : nestB (nestT (newTab s t p) m g) = newOkN s t p m g := by
      rw [e]
      show nestB ⟨t, p, m, g, List.replicate s.toNat (-1)⟩ = _
      rw [free_nest, es]
      rfl
    refine ⟨h1, ?_⟩
    cases h2 : newOkN s t p m g
    · rw [ofN_no (h1.trans h2), newN_no h2]
    · rw [ofN_yes (h1.trans h2), newN_yes h2, e]

set_option maxHeartbeats 2000000 in
theorem nestOf_any (T : Tab) (a : Option Addr) (c : Nat) (m g : Int) (w : World) (hx : T.zs.length ≤ 9223372036854775807) (h1 : IntsAt w a T.zs) :
    Calls Try.prog 46 #[tabV T a c, .int .i64 m, .int .i64 g] w fun e w' => ∃ a' c', e = .returned (.tuple #[nstV (ofN (nestT T m g)) a' c', .bool (nestB (nestT T m g))]) ∧ (∀ base, base ≤ w.heap.size → OwnInts w base a T.zs → OwnInts w' base a' (ofN (nestT T m g)).zs) ∧ Below w.heap.size w w' := by
  have S0 := ((((St.start w).read h1).alloc #[.int .i64 T.t, .int .i64 T.p, .slice a T.zs.length c] 62).alloc nstZ 25).alloc #[.int .i64 T.t, .int .i64 T.p, .int .i64 m, .int .i64 g, .slice a T.zs.length c] 25
  simp only [World.size_alloc] at S0
  obtain ⟨x0, x1, x2, _, _, _, xz⟩ := facts3 (S0.cells 2 rfl)
  have HV := Lib.hid fun (W : World) (h : IntsAt W a T.zs) => NestValid_any (nestT T m g) a c W hx h
  cases hn : nestB (nestT T m g)
  · have R : Hid (ofN (nestT T m g) = zeroN) := Lib.hid (ofN_no hn)
    rw [hn] at HV
    go_enter Try.func46, Try.ntmps46
    go_wp2_with fail
    clear x0 x1 x2 xz
    refine (HV.out _ (by exact S0.reads 3 rfl)).mono ?_
    rintro e w1 ⟨rfl, hb⟩
    have S1 := S0.below hb
    clear S0 hb
    obtain ⟨y0, y1, y2, y3, y4, _⟩ := facts5 (S1.cells 1 rfl)
    obtain ⟨f0, f1, f2, f3, f4⟩ := free5 (S1.cells 1 rfl)
    have S2 := S1.nest5 1 rfl (.int .i64 0) (.int .i64 0) (.int .i64 0) (.int .i64 0) (.slice none 0 0) (by simp [Far, It.own, It.box, It.read] <;> omega) (by omega)
    simp only [List.set_cons_zero, List.set_cons_succ] at S2
    obtain ⟨r0, r1, r2, r3, r4, _⟩ := facts5 (S2.cells 1 rfl)
    go_wp2_with fail
    refine bodyPost_ret (v := .tuple #[.agg #[.int .i64 0, .int .i64 0, .int .i64 0, .int .i64 0, .slice none 0 0], .bool false]) (by simp [results, Try.results46, go_sem, r0, r1, r2, r3, r4]) rfl ?_
    rw [R.out]
    exact ⟨none, 0, rfl, fun base _ _ => OwnInts.nil _ _, S2.old⟩
  · have R : Hid (ofN (nestT T m g) = nestT T m g) := Lib.hid (ofN_yes hn)
    rw [hn] at HV
    go_enter Try.func46, Try.ntmps46
    go_wp2_with fail
    clear x0 x1 x2 xz
    refine (HV.out _ (by exact S0.reads 3 rfl)).mono ?_
    rintro e w1 ⟨rfl, hb⟩
    have S1 := S0.below hb
    clear S0 hb
    obtain ⟨x0, x1, x2, x3, x4, _⟩ := facts5 (S1.cells 0 rfl)
    obtain ⟨y0, y1, y2, y3, y4, _⟩ := facts5 (S1.cells 1 rfl)
    obtain ⟨f0, f1, f2, f3, f4⟩ := free5 (S1.cells 1 rfl)
    have S2 := S1.nest5 1 rfl (.int .i64 T.t) (.int .i64 T.p) (.int .i64 m) (.int .i64 g) (.slice a T.zs.length c) (by simp [Far, It.own, It.box, It.read] <;> omega) (by omega)
    simp only [List.set_cons_zero, List.set_cons_succ] at S2
    obtain ⟨r0, r1, r2, r3, r4, _⟩ := facts5 (S2.cells 1 rfl)
    have B2 := Lib.hid S2.old
    go_wp2_with fail
    refine bodyPost_ret (v := .tuple #[nstV (nestT T m g) a c, .bool true]) (by simp [results, Try.results46, go_sem, r0, r1, r2, r3, r4]) rfl ?_
    rw [R.out]
    exact ⟨a, c, rfl, fun base hbase ho => ho.below B2.out, B2.out⟩

set_option maxHeartbeats 2000000 in
theorem NewNest_any (s t p m g : Int) (w : World) : Calls Try.prog 15 #[.int .i64 s, .int .i64 t, .int .i64 p, .int .i64 m, .int .i64 g] w (NstOk (newNst s t p m g) (newOkN s t p m g) w) := by
  have hl := newTab_len s t p
  have HT := Lib.hid fun (W : World) => NewTable_any s t p W
  have HN := Lib.hid (new_of s t p m g)
  generalize newTab s t p = T at hl HT HN
  generalize newNst s t p m g = X at HN ⊢
  generalize newOkN s t p m g = ok at HN ⊢
  generalize headB s t p = ok0 at HT
  have HF := Lib.hid fun (a : Option Addr) (c : Nat) (W : World) (h : IntsAt W a T.zs) => nestOf_any T a c m g W (by omega) h
  rw [HN.out.1, HN.out.2] at HF
  clear HN
  have S0 := (St.start w).alloc nstZ 25
  go_enter Try.func15, Try.ntmps15
  go_wp2_with fail
  refine (HT.out _).mono ?_
  rintro e w1 ⟨a1, c1, rfl, ho, hb⟩
  have S1 := ((S0.below hb).own ho).alloc #[.int .i64 T.t, .int .i64 T.p, .slice a1 T.zs.length c1] 62
  have z1 := hb.size
  simp only [World.size_alloc] at z1 S1
  clear S0 ho hb
  obtain ⟨x0, x1, x2, _, _, _, xz⟩ := facts3 (S1.cells 0 rfl)
  go_wp2_with fail
  clear x0 x1 x2 xz
  refine (HF.out a1 c1 _ (by exact S1.ints 1 rfl)).mono ?_
  rintro e w2 ⟨a2, c2, rfl, ho, hb⟩
  have HO := ho (w.heap.size + 1) (by simp; omega) (S1.owns 1 rfl)
  have S2 := S1.below hb
  have z2 := hb.size
  simp only [World.size_alloc] at z2
  clear S1 ho hb
  have S3 : St w w2 [It.box w.heap.size nstZ 25, It.own (w.heap.size + 1) w2.heap.size a2 X.zs] := by
    refine ⟨S2.old, fun i hi => ?_⟩
    simp only [List.mem_cons, List.not_mem_nil, or_false] at hi
    rcases hi with rfl | rfl
    · exact S2.all _ (by simp)
    · exact ⟨Nat.le_refl _, HO, fun p hp => (HO.1 p hp).2⟩
  clear S2 HO
  obtain ⟨y0, y1, y2, y3, y4, _⟩ := facts5 (S3.cells 0 rfl)
  obtain ⟨f0, f1, f2, f3, f4⟩ := free5 (S3.cells 0 rfl)
  have S4 := S3.nest5 0 rfl (.int .i64 X.t) (.int .i64 X.p) (.int .i64 X.m) (.int .i64 X.g) (.slice a2 X.zs.length c2) (by simp [Far, It.own, It.box, It.read] <;> omega) (by omega)
  simp only [List.set_cons_zero, List.set_cons_succ] at S4
  obtain ⟨r0, r1, r2, r3, r4, _⟩ := facts5 (S4.cells 0 rfl)
  go_wp2_with fail
  refine bodyPost_ret (v := .tuple #[nstV X a2 c2, .bool ok]) (by simp [results, Try.results15, go_sem, r0, r1, r2, r3, r4]) rfl ?_
  exact ⟨a2, c2, rfl, (S4.owns 1 rfl).mono (by omega), S4.old⟩

theorem l1FreeN_any (n : Nat) (t p : Int) (w : World) (hn : n ≤ 16) :
    Calls Try.prog 48 #[.int .i64 n, .int .i64 t, .int .i64 p] w fun e w' => ∃ a c, e = .returned (.agg #[.int .i64 t, .int .i64 p, .slice a n c]) ∧ OwnInts w' w.heap.size a (List.replicate n (-1)) ∧ Below w.heap.size w w' := by
  refine (l1Free_any n t p w hn).mono ?_
  rintro e w' ⟨a, c, rfl, h1, h2, _⟩
  exact ⟨a, c, rfl, h1, h2⟩

theorem field_slots (t p : Int) (a : Option Addr) (n c : Nat) (w : World) : (Instr.field 62 (.agg #[.int .i64 t, .int .i64 p, .slice a n c]) 2).run Try.prog w = .ok (.slice a n c) w := by kernel_rfl

set_option maxHeartbeats 2000000 in
theorem specNewNest_any (s t p m g : Int) (w : World) : Calls Try.prog 16 #[.int .i64 s, .int .i64 t, .int .i64 p, .int .i64 m, .int .i64 g] w (NstOk (newNst s t p m g) (newOkN s t p m g) w) := by
  have S0 := (St.start w).alloc nstZ 25
  cases h1 : headB s t p
  · have R : Hid (newNst s t p m g = zeroN ∧ newOkN s t p m g = false) := Lib.hid ⟨newN_no (by simp [newOkN, h1]), by simp [newOkN, h1]⟩
    obtain ⟨r0, r1, r2, r3, r4, _⟩ := facts5 (S0.cells 0 rfl)
    go_enter Try.func16, Try.ntmps16
    go_wp2_with (go_at_call 47; refine (l1Head_any _ _ _ _).mono ?_; rintro e w' ⟨rfl, rfl⟩; rw [h1])
    refine bodyPost_ret (v := .tuple #[.agg #[.int .i64 0, .int .i64 0, .int .i64 0, .int .i64 0, .slice none 0 0], .bool false]) (by simp [results, Try.results16, go_sem, r0, r1, r2, r3, r4]) rfl ?_
    rw [R.out.1, R.out.2]
    exact ⟨none, 0, rfl, OwnInts.nil _ _, S0.old⟩
  cases h2 : headB s m g
  · have R : Hid (newNst s t p m g = zeroN ∧ newOkN s t p m g = false) := Lib.hid ⟨newN_no (by simp [newOkN, h2]), by simp [newOkN, h2]⟩
    obtain ⟨r0, r1, r2, r3, r4, _⟩ := facts5 (S0.cells 0 rfl)
    go_enter Try.func16, Try.ntmps16
    go_wp2_with (first | (go_at_call 47; with_reducible refine (l1Head_any s t p _).mono ?_; rintro e w' ⟨rfl, rfl⟩; rw [h1]) | (go_at_call 47; with_reducible refine (l1Head_any s m g _).mono ?_; rintro e w' ⟨rfl, rfl⟩; rw [h2]))
    refine bodyPost_ret (v := .tuple #[.agg #[.int .i64 0, .int .i64 0, .int .i64 0, .int .i64 0, .slice none 0 0], .bool false]) (by simp [results, Try.results16, go_sem, r0, r1, r2, r3, r4]) rfl ?_
    rw [R.out.1, R.out.2]
    exact ⟨none, 0, rfl, OwnInts.nil _ _, S0.old⟩
  have hs := inB_iff.1 (head_size h1).1
  obtain ⟨n, rfl⟩ : ∃ n : Nat, s = n := ⟨s.toNat, by omega⟩
  have fld := field_slots
  have R : Hid (∀ (a : Option Addr) (c : Nat) (w' : World), OwnInts w' w.heap.size a (List.replicate n (-1)) → Below w.heap.size w w' → NstOk (newNst n t p m g) (newOkN n t p m g) w (.returned (.tuple #[.agg #[.int .i64 t, .int .i64 p, .int .i64 m, .int .i64 g, .slice a n c], .bool true])) w') := Lib.hid (by
    have e1 : newNst n t p m g = ⟨t, p, m, g, List.replicate n (-1)⟩ := newN_yes (by simp [newOkN, h1, h2])
    have e2 : newOkN n t p m g = true := by simp [newOkN, h1, h2]
    intro a c w' ho hb
    rw [e1, e2]
    exact ⟨a, c, by unfold nstV; simp only [List.length_replicate], ho, hb⟩)
  go_enter Try.func16, Try.ntmps16
  go_wp2_with (first | (go_at_call 47; with_reducible refine (l1Head_any n t p _).mono ?_; rintro e w' ⟨rfl, rfl⟩; rw [h1]) | (go_at_call 47; with_reducible refine (l1Head_any n m g _).mono ?_; rintro e w' ⟨rfl, rfl⟩; rw [h2]))
  refine (l1FreeN_any n t p _ (by omega)).mono ?_
  rintro e w1 ⟨a, c, rfl, ho, hb⟩
  have S1 := (S0.below hb).own ho
  clear S0 ho hb h1 h2 hs
  simp only [World.size_alloc] at S1
  obtain ⟨y0, y1, y2, y3, y4, _⟩ := facts5 (S1.cells 1 rfl)
  obtain ⟨f0, f1, f2, f3, f4⟩ := free5 (S1.cells 1 rfl)
  have S4 := S1.nest5 1 rfl (.int .i64 t) (.int .i64 p) (.int .i64 m) (.int .i64 g) (.slice a n c) (by simp [Far, It.own, It.box, It.read] <;> omega) (by omega)
  simp only [List.set_cons_zero, List.set_cons_succ] at S4
  obtain ⟨r0, r1, r2, r3, r4, _⟩ := facts5 (S4.cells 1 rfl)
  have S4' := Lib.hid S4
  clear S1 S4
  go_wp2_with fail
  refine bodyPost_ret (v := .tuple #[.agg #[.int .i64 t, .int .i64 p, .int .i64 m, .int .i64 g, .slice a n c], .bool true]) (by simp [results, Try.results16, go_sem, r0, r1, r2, r3, r4]) rfl ?_
  exact R.out a c _ ((S4'.out.owns 0 rfl).mono (by omega)) S4'.out.old

set_option maxHeartbeats 2000000 in
theorem walkFnExactNewNest (w : World) (s : Int) (_ : (Lit.int .i64 s).wf = true) (t : Int) (_ : (Lit.int .i64 t).wf = true) (p : Int) (_ : (Lit.int .i64 p).wf = true) (m : Int) (_ : (Lit.int .i64 m).wf = true) (g : Int) (_ : (Lit.int .i64 g).wf = true) :
    Calls Try.prog 5 #[.int .i64 s, .int .i64 t, .int .i64 p, .int .i64 m, .int .i64 g] w fun e w' => e = .returned (.bool true) ∧ Below w.heap.size w w' := by
  have hlen := newN_len s t p m g
  have HS := Lib.hid fun W => specNewNest_any s t p m g W
  have HI := Lib.hid fun W => NewNest_any s t p m g W
  unfold NstOk at HS HI
  generalize newNst s t p m g = U at hlen HS HI
  generalize newOkN s t p m g = ok at HS HI
  have S0 := St.start w
  go_enter Try.func5, Try.ntmps5
  go_wp2_with fail
  refine (HS.out _).mono ?_
  rintro e w1 ⟨a0, c0, rfl, ho, hb⟩
  have S1 := ((S0.below hb).own ho).alloc (nstC U a0 c0) 25
  have z1 := hb.size
  clear S0 ho hb
  go_wp2_with fail
  refine (HI.out _).mono ?_
  rintro e w2 ⟨a1, c1, rfl, ho, hb⟩
  have S2 := ((S1.below hb).own ho).alloc (nstC U a1 c1) 25
  have z2 := hb.size
  simp only [World.size_alloc] at z2 S2
  clear S1 ho hb
  obtain ⟨x0, x1, x2, x3, x4, _⟩ := facts5 (S2.cells 0 rfl)
  obtain ⟨y0, y1, y2, y3, y4, _⟩ := facts5 (S2.cells 2 rfl)
  go_wp2_with fail
  clear x0 x1 x2 x3 x4 y0 y1 y2 y3 y4
  refine (eqNest_same U a1 a0 c1 c0 _ (by omega) (by exact S2.ints 1 rfl) (by exact S2.ints 3 rfl)).mono ?_
  rintro e w3 ⟨rfl, hb⟩
  have S3 := S2.below hb
  clear S2 hb
  obtain ⟨x0, x1, x2, x3, x4, _⟩ := facts5 (S3.cells 0 rfl)
  go_wp2_with fail
  clear x0 x1 x2 x3 x4
  refine (markNest_any _ U a1 c1 1 _ (by omega) (by omega) (by omega) (by exact S3.owns 1 rfl)).mono ?_
  rintro e w4 ⟨rfl, ho, hg⟩
  have S4 := S3.markAt hg ho 1 rfl (by simp [Far, It.own, It.box, It.read] <;> omega) (by omega)
  simp only [List.set_cons_zero, List.set_cons_succ] at S4
  clear S3 ho hg
  obtain ⟨x0, x1, x2, x3, x4, _⟩ := facts5 (S4.cells 0 rfl)
  go_wp2_with fail
  clear x0 x1 x2 x3 x4
  refine (heldNest_marks U.t U.p U.m U.g a1 U.zs.length c1 _ (by omega) (by exact S4.ints 1 rfl)).mono ?_
  rintro e w5 ⟨rfl, hb⟩
  have S5 := S4.below hb
  clear S4 hb
  have t1 : decide ((1 : Int) + (U.zs.length : Int) < 0) = false := by simp; omega
  go_wp2_with fail
  refine (HI.out _).mono ?_
  rintro e w6 ⟨a2, c2, rfl, ho, hb⟩
  have S6 := ((S5.below hb).own ho).alloc (nstC U a2 c2) 25
  clear S5 ho hb
  obtain ⟨x0, x1, x2, x3, x4, _⟩ := facts5 (S6.cells 0 rfl)
  obtain ⟨y0, y1, y2, y3, y4, _⟩ := facts5 (S6.cells 4 rfl)
  go_wp2_with fail
  clear x0 x1 x2 x3 x4 y0 y1 y2 y3 y4
  refine (eqNest_same U a2 a0 c2 c0 _ (by omega) (by exact S6.ints 1 rfl) (by exact S6.ints 5 rfl)).mono ?_
  rintro e w7 ⟨rfl, hb⟩
  have S7 := S6.below hb
  clear S6 hb
  obtain ⟨x0, x1, x2, x3, x4, _⟩ := facts5 (S7.cells 2 rfl)
  go_wp2_with fail
  clear x0 x1 x2 x3 x4
  refine (heldNest_marks U.t U.p U.m U.g a1 U.zs.length c1 _ (by omega) (by exact S7.ints 3 rfl)).mono ?_
  rintro e w8 ⟨rfl, hb⟩
  have S8 := S7.below hb
  go_wp2_with fail
  go_ret
  exact ⟨rfl, S8.old⟩

end Go.Proofs.Ytojmjhojgfopaaa

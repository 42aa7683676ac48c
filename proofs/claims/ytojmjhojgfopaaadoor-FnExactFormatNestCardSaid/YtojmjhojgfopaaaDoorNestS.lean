/-
  NestValid, HomesOf, FindNest of the model.
-/
import Derived.Test.YtojmjhojgfopaaaDoorNest
import Derived.Test.YtojmjhojgfopaaaDoorHomeL
import Derived.Deep.DeepCutAuto
namespace Go.Proofs.YtojmjhojgfopaaaDoor
open Go.RowKit

set_option maxHeartbeats 400000 in
theorem l9First_any (N : Nst) (a : Option Addr) (c : Nat) (w : World) :
    Calls Tryd.prog 13 #[nstV N a c] w fun e w' => e = .returned (tabV N.one a c) ∧ Below w.heap.size w w' := by
  have S0 := (St.start w).alloc (nstC N a c) 27
  obtain ⟨x0, x1, x2, x3, x4, xz⟩ := facts5 (S0.cells 0 rfl)
  go_enter Tryd.func13, Tryd.ntmps13
  go_wp2_with fail
  have S1 := S0.alloc #[.int .i64 N.t, .int .i64 N.p, .slice a N.zs.length c] 36
  obtain ⟨r0, r1, r2, _⟩ := facts3 (S1.cells 0 rfl)
  simp only [World.size_alloc] at r0 r1 r2
  refine bodyPost_ret (v := tabV N.one a c) (by simp [results, Tryd.results13, go_sem, r0, r1, r2]) rfl ⟨rfl, S1.old⟩

set_option maxHeartbeats 400000 in
theorem l9Second_any (N : Nst) (a : Option Addr) (c : Nat) (w : World) :
    Calls Tryd.prog 20 #[nstV N a c] w fun e w' => e = .returned (tabV N.two a c) ∧ Below w.heap.size w w' := by
  have S0 := (St.start w).alloc (nstC N a c) 27
  obtain ⟨x0, x1, x2, x3, x4, xz⟩ := facts5 (S0.cells 0 rfl)
  go_enter Tryd.func20, Tryd.ntmps20
  go_wp2_with fail
  have S1 := S0.alloc #[.int .i64 N.m, .int .i64 N.g, .slice a N.zs.length c] 36
  obtain ⟨r0, r1, r2, _⟩ := facts3 (S1.cells 0 rfl)
  simp only [World.size_alloc] at r0 r1 r2
  refine bodyPost_ret (v := tabV N.two a c) (by simp [results, Tryd.results20, go_sem, r0, r1, r2]) rfl ⟨rfl, S1.old⟩

theorem three_all {w : World} {b : Nat} {x y z : Value} {T : TypeId} (h : w.heap[b]? = some (.cells #[x, y, z] T (0, 0))) :
    (∀ o, (w.alloc o).cell? ⟨b, 0, none⟩ = some x) ∧ (∀ o, (w.alloc o).cell? ⟨b, 1, none⟩ = some y) ∧ (∀ o, (w.alloc o).cell? ⟨b, 2, none⟩ = some z) ∧
    (∀ o, (w.alloc o).frozen? ⟨b, 0, none⟩ = false) ∧ (∀ o, (w.alloc o).frozen? ⟨b, 1, none⟩ = false) ∧ (∀ o, (w.alloc o).frozen? ⟨b, 2, none⟩ = false) := by
  have hb := (Array.getElem?_eq_some_iff.1 h).1
  have hh : ∀ o, (w.alloc o).heap[b]? = some (.cells #[x, y, z] T (0, 0)) := fun o => by
    have := ((Below.refl w.heap.size w).alloc (Nat.le_refl _) o).block b hb
    rw [this]; exact h
  exact ⟨fun o => (facts3 (hh o)).1, fun o => (facts3 (hh o)).2.1, fun o => (facts3 (hh o)).2.2.1, fun o => (facts3 (hh o)).2.2.2.1, fun o => (facts3 (hh o)).2.2.2.2.1, fun o => (facts3 (hh o)).2.2.2.2.2.1⟩
abbrev tabZ : Array Value := #[.int .i64 0, .int .i64 0, .slice none 0 0]
abbrev tabC (T : Tab) (a : Option Addr) (c : Nat) : Array Value := #[.int .i64 T.t, .int .i64 T.p, .slice a T.zs.length c]
theorem five_alloc {W : World} {b : Nat} {x0 x1 x2 x3 x4 : Value} {o : Obj} (hb : b < W.heap.size) (h : W.cell? ⟨b, 0, none⟩ = some x0 ∧ W.cell? ⟨b, 1, none⟩ = some x1 ∧ W.cell? ⟨b, 2, none⟩ = some x2 ∧ W.cell? ⟨b, 3, none⟩ = some x3 ∧ W.cell? ⟨b, 4, none⟩ = some x4) :
    (W.alloc o).cell? ⟨b, 0, none⟩ = some x0 ∧ (W.alloc o).cell? ⟨b, 1, none⟩ = some x1 ∧ (W.alloc o).cell? ⟨b, 2, none⟩ = some x2 ∧ (W.alloc o).cell? ⟨b, 3, none⟩ = some x3 ∧ (W.alloc o).cell? ⟨b, 4, none⟩ = some x4 := by
  have hb' : Below W.heap.size W (W.alloc o) := (Below.refl _ _).alloc (Nat.le_refl _) _
  exact ⟨(hb'.cell (p := ⟨b, 0, none⟩) hb).trans h.1, (hb'.cell (p := ⟨b, 1, none⟩) hb).trans h.2.1, (hb'.cell (p := ⟨b, 2, none⟩) hb).trans h.2.2.1, (hb'.cell (p := ⟨b, 3, none⟩) hb).trans h.2.2.2.1, (hb'.cell (p := ⟨b, 4, none⟩) hb).trans h.2.2.2.2⟩
theorem five_below {W W' : World} {b : Nat} {x0 x1 x2 x3 x4 : Value} (hb' : Below W.heap.size W W') (hb : b < W.heap.size) (h : W.cell? ⟨b, 0, none⟩ = some x0 ∧ W.cell? ⟨b, 1, none⟩ = some x1 ∧ W.cell? ⟨b, 2, none⟩ = some x2 ∧ W.cell? ⟨b, 3, none⟩ = some x3 ∧ W.cell? ⟨b, 4, none⟩ = some x4) :
    W'.cell? ⟨b, 0, none⟩ = some x0 ∧ W'.cell? ⟨b, 1, none⟩ = some x1 ∧ W'.cell? ⟨b, 2, none⟩ = some x2 ∧ W'.cell? ⟨b, 3, none⟩ = some x3 ∧ W'.cell? ⟨b, 4, none⟩ = some x4 :=
  ⟨(hb'.cell (p := ⟨b, 0, none⟩) hb).trans h.1, (hb'.cell (p := ⟨b, 1, none⟩) hb).trans h.2.1, (hb'.cell (p := ⟨b, 2, none⟩) hb).trans h.2.2.1, (hb'.cell (p := ⟨b, 3, none⟩) hb).trans h.2.2.2.1, (hb'.cell (p := ⟨b, 4, none⟩) hb).trans h.2.2.2.2⟩
theorem five_set {W : World} {b k o : Nat} {v : Value} {x0 x1 x2 x3 x4 : Value} (hk : k ≠ b) (h : W.cell? ⟨b, 0, none⟩ = some x0 ∧ W.cell? ⟨b, 1, none⟩ = some x1 ∧ W.cell? ⟨b, 2, none⟩ = some x2 ∧ W.cell? ⟨b, 3, none⟩ = some x3 ∧ W.cell? ⟨b, 4, none⟩ = some x4) :
    (W.setCell ⟨k, o, none⟩ v).cell? ⟨b, 0, none⟩ = some x0 ∧ (W.setCell ⟨k, o, none⟩ v).cell? ⟨b, 1, none⟩ = some x1 ∧ (W.setCell ⟨k, o, none⟩ v).cell? ⟨b, 2, none⟩ = some x2 ∧ (W.setCell ⟨k, o, none⟩ v).cell? ⟨b, 3, none⟩ = some x3 ∧ (W.setCell ⟨k, o, none⟩ v).cell? ⟨b, 4, none⟩ = some x4 := by
  have hn : ∀ i, (W.setCell ⟨k, o, none⟩ v).cell? ⟨b, i, none⟩ = W.cell? ⟨b, i, none⟩ := fun i => World.cell?_setCell_other _ _ _ _ (by simp only [ne_eq, Addr.mk.injEq]; omega)
  rw [hn, hn, hn, hn, hn]; exact h
theorem five_drew {W : World} {b : Nat} {x0 x1 x2 x3 x4 : Value} (h : W.cell? ⟨b, 0, none⟩ = some x0 ∧ W.cell? ⟨b, 1, none⟩ = some x1 ∧ W.cell? ⟨b, 2, none⟩ = some x2 ∧ W.cell? ⟨b, 3, none⟩ = some x3 ∧ W.cell? ⟨b, 4, none⟩ = some x4) :
    W.drew.cell? ⟨b, 0, none⟩ = some x0 ∧ W.drew.cell? ⟨b, 1, none⟩ = some x1 ∧ W.drew.cell? ⟨b, 2, none⟩ = some x2 ∧ W.drew.cell? ⟨b, 3, none⟩ = some x3 ∧ W.drew.cell? ⟨b, 4, none⟩ = some x4 := h
theorem lt_drew {W : World} {b : Nat} (h : b < W.heap.size) : b < W.drew.heap.size := h
theorem lt_set {W : World} {b : Nat} {p : Addr} {v : Value} (h : b < W.heap.size) : b < (W.setCell p v).heap.size := by simpa [World.setCell] using h
theorem lt_alloc {W : World} {b : Nat} {o : Obj} (h : b < W.heap.size) : b < (W.alloc o).heap.size := by rw [World.size_alloc]; omega
theorem lt_below {W W' : World} {b : Nat} (hb : Below W.heap.size W W') (h : b < W.heap.size) : b < W'.heap.size := Nat.lt_of_lt_of_le h hb.size

set_option maxHeartbeats 8000000 in
theorem specNestValid_any (N : Nst) (a : Option Addr) (c : Nat) (w : World) (hx : N.zs.length ≤ 9223372036854775807) (h1 : IntsAt w a N.zs) :
    Calls Tryd.prog 10 #[nstV N a c] w fun e w' => e = .returned (.bool (nestB N)) ∧ Below w.heap.size w w' := by
  have S0 := ((St.start w).read h1).alloc (nstC N a c) 27
  have X0 : _ ∧ _ ∧ _ ∧ _ ∧ _ := (S0.ten 0 0 rfl rfl).2.2.2.2
  have xz : w.heap.size < (w.alloc (.cells (nstC N a c) 27)).heap.size := by simp
  have X0 := X0.2
  have X0d : _ ∧ _ ∧ _ ∧ _ ∧ _ := (S0.drew.ten 0 0 rfl rfl).2.2.2.2.2
  have xzd : w.heap.size < (w.alloc (.cells (nstC N a c) 27)).drew.heap.size := by simp
  go_enter Tryd.func10, Tryd.ntmps10
  go_wp2_with fail
  go_cut [3, 4] (fun s3 s4 wx => ∃ b3 b4 : Nat, s3 = .pointer (some ⟨b3, 0, none⟩) ∧ s4 = .pointer (some ⟨b4, 0, none⟩) ∧ St w wx [It.box b3 (tabC N.one a c) 36, It.box b4 (tabC N.two a c) 36, It.box w.heap.size (nstC N a c) 27, It.read w.heap.size a N.zs])
  case first =>
    go_region_held3 (fun w' => w'.cell? ⟨w.heap.size, 0, none⟩ = some (.int .i64 N.t) ∧ w'.cell? ⟨w.heap.size, 1, none⟩ = some (.int .i64 N.p) ∧ w'.cell? ⟨w.heap.size, 2, none⟩ = some (.int .i64 N.m) ∧ w'.cell? ⟨w.heap.size, 3, none⟩ = some (.int .i64 N.g) ∧ w'.cell? ⟨w.heap.size, 4, none⟩ = some (.slice a N.zs.length c))
      (first
        | with_reducible exact X0
        | with_reducible exact X0d
        | (repeat (first | with_reducible exact X0 | with_reducible exact X0d | with_reducible exact xz | with_reducible exact xzd | with_reducible refine five_alloc ?_ ?_ | with_reducible refine five_below (by assumption) ?_ ?_ | with_reducible refine five_set ?_ ?_ | omega | with_reducible refine lt_set ?_ | with_reducible refine five_drew ?_ | with_reducible refine lt_drew ?_ | with_reducible refine lt_alloc ?_ | with_reducible refine lt_below (by assumption) ?_)); done)
      (first
        | (go_at_call 13; refine (l9First_any N a c _).mono ?_; rintro e wa ⟨rfl, hb8⟩; have y8 := hb8.size; simp only [World.size_alloc, World.size_drew] at y8; (first | (have S8 := S0.drew.below hb8) | (have S8 := (S0.alloc tabZ 36).drew.below hb8) | (have S8 := ((S0.alloc tabZ 36).alloc tabZ 36).drew.below hb8)); (try simp only [World.size_alloc] at S8); (try obtain ⟨p00, p01, p02, f00, f01, f02, _⟩ := facts3 (S8.cells 0 rfl)); (try obtain ⟨q00, q01, q02, g00, g01, g02⟩ := three_all (S8.cells 0 rfl)); (try obtain ⟨p10, p11, p12, f10, f11, f12, _⟩ := facts3 (S8.cells 1 rfl)); (try obtain ⟨q10, q11, q12, g10, g11, g12⟩ := three_all (S8.cells 1 rfl)))
        | (go_at_call 20; refine (l9Second_any N a c _).mono ?_; rintro e wb ⟨rfl, hb10⟩; have y10 := hb10.size; (try simp only [World.size_alloc] at y10); (first | (have S10 := S8.below hb10) | (have S10 := (S8.alloc tabZ 36).below hb10) | (have S10 := ((S8.alloc tabZ 36).alloc tabZ 36).below hb10)); (try simp only [World.size_alloc] at S10); (try obtain ⟨p00, p01, p02, f00, f01, f02, _⟩ := facts3 (S10.cells 0 rfl)); (try obtain ⟨q00, q01, q02, g00, g01, g02⟩ := three_all (S10.cells 0 rfl)); (try obtain ⟨p10, p11, p12, f10, f11, f12, _⟩ := facts3 (S10.cells 1 rfl)); (try obtain ⟨q10, q11, q12, g10, g11, g12⟩ := three_all (S10.cells 1 rfl))))
    all_goals (go_wp2_with fail; go_meet; refine ⟨_, _, rfl, rfl, ?_⟩)
    all_goals
      first
        | (with_reducible exact ((S10.alloc (tabC N.one a c) 36).alloc (tabC N.two a c) 36).turn (by intro i hi; simp only [List.mem_cons, List.not_mem_nil, or_false, List.set_cons_zero, List.set_cons_succ, World.size_alloc] at hi ⊢; rcases hi with rfl | rfl | rfl | rfl <;> simp [World.setCell]))
        | (with_reducible exact ((S10.alloc (tabC N.two a c) 36).alloc (tabC N.one a c) 36).turn (by intro i hi; simp only [List.mem_cons, List.not_mem_nil, or_false, List.set_cons_zero, List.set_cons_succ, World.size_alloc] at hi ⊢; rcases hi with rfl | rfl | rfl | rfl <;> simp [World.setCell]))
        | (with_reducible exact ((S10.set3Box 0 rfl (by simp [Far, It.own, It.box, It.read] <;> omega) (by omega) (.int .i64 N.t) (.int .i64 N.p) (.slice a N.zs.length c)).alloc (tabC N.two a c) 36).turn (by intro i hi; simp only [List.mem_cons, List.not_mem_nil, or_false, List.set_cons_zero, List.set_cons_succ, World.size_alloc] at hi ⊢; rcases hi with rfl | rfl | rfl | rfl <;> simp [World.setCell]))
        | (with_reducible exact ((S10.set3Box 0 rfl (by simp [Far, It.own, It.box, It.read] <;> omega) (by omega) (.int .i64 N.m) (.int .i64 N.g) (.slice a N.zs.length c)).alloc (tabC N.one a c) 36).turn (by intro i hi; simp only [List.mem_cons, List.not_mem_nil, or_false, List.set_cons_zero, List.set_cons_succ, World.size_alloc] at hi ⊢; rcases hi with rfl | rfl | rfl | rfl <;> simp [World.setCell]))
        | (have E := (S10.set3Box 0 rfl (by simp [Far, It.own, It.box, It.read] <;> omega) (by omega) (.int .i64 N.t) (.int .i64 N.p) (.slice a N.zs.length c)); simp only [List.set_cons_zero, List.set_cons_succ] at E; have E2 := E.set3Box 1 rfl (by simp [Far, It.own, It.box, It.read] <;> omega) (by omega) (.int .i64 N.m) (.int .i64 N.g) (.slice a N.zs.length c); simp only [List.set_cons_zero, List.set_cons_succ] at E2; with_reducible exact E2.turn (by intro i hi; simp only [List.mem_cons, List.not_mem_nil, or_false, List.set_cons_zero, List.set_cons_succ, World.size_alloc] at hi ⊢; rcases hi with rfl | rfl | rfl | rfl <;> simp [World.setCell]))
        | (have E := (S10.set3Box 1 rfl (by simp [Far, It.own, It.box, It.read] <;> omega) (by omega) (.int .i64 N.t) (.int .i64 N.p) (.slice a N.zs.length c)); simp only [List.set_cons_zero, List.set_cons_succ] at E; have E2 := E.set3Box 0 rfl (by simp [Far, It.own, It.box, It.read] <;> omega) (by omega) (.int .i64 N.m) (.int .i64 N.g) (.slice a N.zs.length c); simp only [List.set_cons_zero, List.set_cons_succ] at E2; with_reducible exact E2.turn (by intro i hi; simp only [List.mem_cons, List.not_mem_nil, or_false, List.set_cons_zero, List.set_cons_succ, World.size_alloc] at hi ⊢; rcases hi with rfl | rfl | rfl | rfl <;> simp [World.setCell]))
  case rest =>
    obtain ⟨b3, b4, rfl, rfl, S1⟩ := hcut
    clear X0 X0d xz xzd S0
    cases hv1 : validB N.one
    · have R : Hid (nestB N = false) := Lib.hid (nest_no1 hv1)
      obtain ⟨x0, x1, x2, _⟩ := facts3 (S1.cells 0 rfl)
      go_wp2_with fail
      refine (specTableValid_any N.one a c _ hx (by exact S1.reads 3 rfl)).mono ?_
      rw [hv1]
      rintro e w1 ⟨rfl, hb⟩
      have S2 := S1.below hb
      clear S1 hb x0 x1 x2
      go_wp2_with fail
      go_ret
      exact ⟨ret_bool R.out.symm, S2.old⟩
    cases hv2 : validB N.two
    · have R : Hid (nestB N = false) := Lib.hid (nest_no2 hv2)
      obtain ⟨x0, x1, x2, _⟩ := facts3 (S1.cells 0 rfl)
      go_wp2_with fail
      refine (specTableValid_any N.one a c _ hx (by exact S1.reads 3 rfl)).mono ?_
      rw [hv1]
      rintro e w1 ⟨rfl, hb⟩
      have S2 := S1.below hb
      clear S1 hb x0 x1 x2
      obtain ⟨x0, x1, x2, _⟩ := facts3 (S2.cells 1 rfl)
      go_wp2_with fail
      refine (specTableValid_any N.two a c _ hx (by exact S2.reads 3 rfl)).mono ?_
      rw [hv2]
      rintro e w2 ⟨rfl, hb⟩
      have S3 := S2.below hb
      clear S2 hb x0 x1 x2
      go_wp2_with fail
      go_ret
      exact ⟨ret_bool R.out.symm, S3.old⟩
    obtain ⟨⟨l1, l2⟩, _⟩ := valid_facts hv1
    obtain ⟨x0, x1, x2, _⟩ := facts3 (S1.cells 0 rfl)
    go_wp2_with fail
    refine (specTableValid_any N.one a c _ hx (by exact S1.reads 3 rfl)).mono ?_
    rw [hv1]
    rintro e w1 ⟨rfl, hb⟩
    have S2 := S1.below hb
    clear S1 hb x0 x1 x2
    obtain ⟨x0, x1, x2, _⟩ := facts3 (S2.cells 1 rfl)
    go_wp2_with fail
    refine (specTableValid_any N.two a c _ hx (by exact S2.reads 3 rfl)).mono ?_
    rw [hv2]
    rintro e w2 ⟨rfl, hb⟩
    have S3 := S2.below hb
    clear S2 hb x0 x1 x2
    obtain ⟨y0, y1, y2, y3, y4, yz⟩ := facts5 (S3.cells 2 rfl)
    have hI := Lib.hid (S3.reads 3 rfl)
    have HV1 := Lib.hid hv1
    have HV2 := Lib.hid hv2
    by_cases hf : 0 ≤ fnd N.zs (-2)
    · have d0 : decide (0 ≤ fnd N.zs (-2)) = true := decide_eq_true hf
      have R : Hid (nestB N = false) := Lib.hid (tomb_bad hf)
      clear hf
      go_wp2_with (go_at_call 22; refine (l1Find_any _ _ _ _ _ hx hI.out).mono ?_; rintro e w' ⟨rfl, rfl⟩)
      go_ret
      exact ⟨ret_bool R.out.symm, S3.old⟩
    have d0 : decide (0 ≤ fnd N.zs (-2)) = false := decide_eq_false hf
    have HT : Hid (∀ j, j < N.zs.length → nth N.zs j ≠ -2) := Lib.hid (fun j hj => no_tomb hf hj)
    clear hf
    go_wp2_with (go_at_call 22; refine (l1Find_any _ _ _ _ _ hx hI.out).mono ?_; rintro e w' ⟨rfl, rfl⟩)
    go_loopw [5, 6, 28] (fun _ _ i wr => ∃ k : Nat, k ≤ N.zs.length ∧ i = .int .i64 k ∧ Hid (Lies N k) ∧ Hid (St w wr [It.box b3 (tabC N.one a c) 36, It.box b4 (tabC N.two a c) 36, It.box w.heap.size (nstC N a c) 27, It.read w.heap.size a N.zs])) (fun _ _ i _ => N.zs.length - (intOf i).toNat)
    case atStart => exact ⟨0, Nat.zero_le _, rfl, Lib.hid (Lies.zero _), Lib.hid S3⟩
    case round =>
      obtain ⟨k, hk, rfl, HL, HS⟩ := hrel
      clear S3 y0 y1 y2 y3 y4 yz hI
      have S3 := HS.out
      by_cases hlt : k < N.zs.length
      · obtain ⟨b, o, x, rfl, q, X⟩ := (S3.reads 3 rfl).at hlt
        have hb2 := valid_slot hv1 hlt
        have hx2 : nth N.zs k = x := X.out
        have hb3 : -2 ≤ x ∧ x ≤ 99 := by rw [← hx2]; exact hb2
        have hnt : x ≠ -2 := by rw [← hx2]; exact HT.out k hlt
        clear hb2 hx2
        by_cases h0 : 0 ≤ x
        · have g0 : decide (0 ≤ x) = true := decide_eq_true h0
          obtain ⟨h1', h1l⟩ := homeI_bounds hv1 x
          by_cases hh : homeI N.one x = k
          · have d1 : (homeI N.one x != (k : Int)) = false := by simp [hh]
            have HL2 := Lib.hid (HL.out.succ (fit_first X.out h0 hb3.2 hh))
            have HH := Lib.hid fun (W : World) => l1Home_any N.one (some ⟨b, o, none⟩) c x W hv1 h0 hb3.2
            generalize homeI N.one x = h1n at d1 HH
            clear hh h1' h1l hv1 hv2
            obtain ⟨p0, p1, p2, _⟩ := facts3 (S3.cells 0 rfl)
            go_wp2_with fail
            refine (HH.out _).mono ?_
            rintro e w4 ⟨rfl, hb⟩
            have S4 := Lib.hid (S3.below hb)
            clear S3 HS hb p0 p1 p2 q
            go_wp2_with fail
            go_roundw
            case rel => exact ⟨k + 1, by omega, by go_num, HL2, S4⟩
            case measure => simp [intOf]; omega
          · have d1 : (homeI N.one x != (k : Int)) = true := by simpa using hh
            have HH := Lib.hid fun (W : World) => l1Home_any N.one (some ⟨b, o, none⟩) c x W hv1 h0 hb3.2
            have HH2 := Lib.hid fun (W : World) => l1Home_any N.two (some ⟨b, o, none⟩) c x W hv2 h0 hb3.2
            have HF2 : Hid (homeI N.two x = k → fitK N k = true) := Lib.hid fun h => fit_second X.out h0 hb3.2 h
            have HF3 : Hid (homeI N.two x ≠ k → fitK N k = false) := Lib.hid fun h => fit_none X.out (by omega) hh h
            generalize homeI N.one x = h1n at d1 HH
            generalize homeI N.two x = h2n at HF2 HF3 HH2
            clear hh h1' h1l hv1 hv2
            obtain ⟨p0, p1, p2, _⟩ := facts3 (S3.cells 0 rfl)
            cases d2 : (h2n != (k : Int))
            · have HL2 := Lib.hid (HL.out.succ (HF2.out (by simpa using d2)))
              go_wp2_with fail
              refine (HH.out _).mono ?_
              rintro e w4 ⟨rfl, hb⟩
              have S4 := S3.below hb
              clear S3 HS hb p0 p1 p2 q
              obtain ⟨p0, p1, p2, _⟩ := facts3 (S4.cells 1 rfl)
              go_wp2_with fail
              refine (HH2.out _).mono ?_
              rintro e w5 ⟨rfl, hb⟩
              have S5 := Lib.hid (S4.below hb)
              clear S4 hb p0 p1 p2
              go_wp2_with fail
              go_roundw
              case rel => exact ⟨k + 1, by omega, by go_num, HL2, S5⟩
              case measure => simp [intOf]; omega
            · have R : Hid (nestB N = false) := Lib.hid (nest_bad hlt (HF3.out (by simpa using d2)))
              go_wp2_with fail
              refine (HH.out _).mono ?_
              rintro e w4 ⟨rfl, hb⟩
              have S4 := S3.below hb
              clear S3 HS hb p0 p1 p2 q
              obtain ⟨p0, p1, p2, _⟩ := facts3 (S4.cells 1 rfl)
              go_wp2_with fail
              refine (HH2.out _).mono ?_
              rintro e w5 ⟨rfl, hb⟩
              have S5 := S4.below hb
              clear S4 hb p0 p1 p2
              go_wp2_with fail
              go_ret
              exact ⟨ret_bool R.out.symm, S5.old⟩
        · have g0 : decide (0 ≤ x) = false := decide_eq_false h0
          have HL2 := Lib.hid (HL.out.succ (fit_free X.out (by omega)))
          go_wp2_with fail
          go_roundw
          case rel => exact ⟨k + 1, by omega, by go_num, HL2, HS⟩
          case measure => simp [intOf]; omega
      · have R : Hid (nestB N = true) := Lib.hid (nest_all HV1.out HV2.out (by omega) HL.out)
        go_wp2
        go_ret
        exact ⟨ret_bool R.out.symm, S3.old⟩
end Go.Proofs.YtojmjhojgfopaaaDoor

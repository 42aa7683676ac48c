/-
  A nest's two tables, its homes as function values: the program's.
-/
import Derived.Test.YtojmjhojgfopaaaDoorNest
import Derived.Test.YtojmjhojgfopaaaDoorHomeL
namespace Go.Proofs.YtojmjhojgfopaaaDoor
open Go.RowKit

abbrev tabD (T : Tab) (a : Option Addr) (c : Nat) : Array Value := #[.int .i64 T.t, .int .i64 T.p, .slice a T.zs.length c]
/-- The two tables as one value. -/
abbrev tabsC (N : Nst) (a : Option Addr) (c : Nat) : Array Value := #[.int .i64 N.t, .int .i64 N.p, .slice a N.zs.length c, .int .i64 N.m, .int .i64 N.g, .slice a N.zs.length c]
abbrev tabsV (N : Nst) (a : Option Addr) (c : Nat) : Value := .agg (tabsC N a c)

theorem facts6 {w : World} {b : Nat} {x0 x1 x2 x3 x4 x5 : Value} {T : TypeId} (h : w.heap[b]? = some (.cells #[x0, x1, x2, x3, x4, x5] T (0, 0))) :
    w.cell? ⟨b, 0, none⟩ = some x0 ∧ w.cell? ⟨b, 1, none⟩ = some x1 ∧ w.cell? ⟨b, 2, none⟩ = some x2 ∧ w.cell? ⟨b, 3, none⟩ = some x3 ∧ w.cell? ⟨b, 4, none⟩ = some x4 ∧ w.cell? ⟨b, 5, none⟩ = some x5 :=
  ⟨by simp [World.cell?, h], by simp [World.cell?, h], by simp [World.cell?, h], by simp [World.cell?, h], by simp [World.cell?, h], by simp [World.cell?, h]⟩

set_option maxHeartbeats 1000000 in
theorem tables_any (N : Nst) (a : Option Addr) (c : Nat) (w : World) :
    Calls Tryd.prog 18 #[nstV N a c] w fun e w' => e = .returned (tabsV N a c) ∧ Below w.heap.size w w' := by
  have S0 := (St.start w).alloc (nstC N a c) 27
  obtain ⟨x0, x1, x2, x3, x4, xz⟩ := facts5 (S0.cells 0 rfl)
  go_enter Tryd.func18, Tryd.ntmps18
  go_wp2_with fail
  have S1 := S0.alloc (tabsC N a c) 39
  obtain ⟨r0, r1, r2, r3, r4, r5⟩ := facts6 (S1.cells 0 rfl)
  simp only [World.size_alloc] at r0 r1 r2 r3 r4 r5
  refine bodyPost_ret (v := tabsV N a c) (by simp [results, Tryd.results18, go_sem, r0, r1, r2, r3, r4, r5]) rfl ⟨rfl, S1.old⟩

/-- A home as a function value: the table lies in a block of its own. -/
abbrev homeV (b : Nat) : Value := .func (.func 37) #[] #[.pointer (some ⟨b, 0, none⟩)]
abbrev homC (b1 b2 : Nat) : Array Value := #[homeV b1, homeV b2]

set_option maxHeartbeats 1000000 in
theorem homeF_any (T : Tab) (a : Option Addr) (c : Nat) (key : Int) (b : Nat) (w : World) (hv : validB T = true) (h0 : 0 ≤ key) (h1 : key ≤ 99) (hB : w.heap[b]? = some (.cells (tabD T a c) 36 (0, 0))) :
    Calls Tryd.prog 37 #[.int .i64 key, .pointer (some ⟨b, 0, none⟩)] w fun e w' => e = .returned (.int .i64 (homeI T key)) ∧ Below w.heap.size w w' := by
  obtain ⟨x0, x1, x2, _⟩ := facts3 hB
  go_enter Tryd.func37, Tryd.ntmps37
  go_wp2_with fail
  refine (homeIn_any T a c key _ hv h0 h1).mono ?_
  rintro e w1 ⟨rfl, hb⟩
  go_wp2_with fail
  go_ret
  exact ⟨rfl, hb⟩

/-- Both homes, and the blocks that they look into. -/
def HomRes (N : Nst) (a : Option Addr) (c : Nat) (w : World) (e : Ending) (w' : World) : Prop :=
  ∃ b1 b2, e = .returned (.agg (homC b1 b2)) ∧ St w w' [It.box b1 (tabD N.one a c) 36, It.box b2 (tabD N.two a c) 36]

theorem index_tabs0 (N : Nst) (a : Option Addr) (c : Nat) (w : World) : (Instr.index 39 (tabsV N a c) (.int .i64 0)).run Tryd.prog w = .ok (tabV N.one a c) w := by kernel_rfl
theorem index_tabs1 (N : Nst) (a : Option Addr) (c : Nat) (w : World) : (Instr.index 39 (tabsV N a c) (.int .i64 1)).run Tryd.prog w = .ok (tabV N.two a c) w := by kernel_rfl
theorem index_homes0 (b1 b2 : Nat) (w : World) : (Instr.index 47 (.agg (homC b1 b2)) (.int .i64 0)).run Tryd.prog w = .ok (homeV b1) w := by kernel_rfl
theorem index_homes1 (b1 b2 : Nat) (w : World) : (Instr.index 47 (.agg (homC b1 b2)) (.int .i64 1)).run Tryd.prog w = .ok (homeV b2) w := by kernel_rfl

/-- What two cells of a block say. -/
theorem pairs2 {w : World} {b : Nat} {x0 x1 : Value} {T : TypeId} (h : w.heap[b]? = some (.cells #[x0, x1] T (0, 0))) :
    w.cell? ⟨b, 0, none⟩ = some x0 ∧ w.cell? ⟨b, 1, none⟩ = some x1 ∧ w.frozen? ⟨b, 0, none⟩ = false ∧ w.frozen? ⟨b, 1, none⟩ = false ∧ b < w.heap.size :=
  ⟨by simp [World.cell?, h], by simp [World.cell?, h], by simp [World.frozen?, h], by simp [World.frozen?, h], (Array.getElem?_eq_some_iff.1 h).1⟩

/-- Behind how many of the homes are made. -/
def HomK (N : Nst) (a : Option Addr) (c : Nat) (w : World) (i : Value) (wr : World) : Prop :=
  (i = .int .i64 0 ∧ St w wr [It.box (w.heap.size + 1 + 1) #[.nilFunc, .nilFunc] 47, It.box (w.heap.size + 1) #[.nilFunc, .nilFunc] 47]) ∨
  (i = .int .i64 1 ∧ ∃ b1, w.heap.size + 1 + 1 < b1 ∧ St w wr [It.box b1 (tabD N.one a c) 36, It.box (w.heap.size + 1 + 1) #[homeV b1, .nilFunc] 47, It.box (w.heap.size + 1) #[.nilFunc, .nilFunc] 47]) ∨
  (i = .int .i64 2 ∧ ∃ b1 b2, w.heap.size + 1 + 1 < b1 ∧ w.heap.size + 1 + 1 < b2 ∧ St w wr [It.box b2 (tabD N.two a c) 36, It.box b1 (tabD N.one a c) 36, It.box (w.heap.size + 1 + 1) (homC b1 b2) 47, It.box (w.heap.size + 1) #[.nilFunc, .nilFunc] 47])

theorem store_func (a : Addr) (fn : Fn) (first cap : Array Value) (w : World) : (store a (.func fn first cap)).run Tryd.prog w = stored Tryd.prog w a (.func fn first cap) .plain := run_store Tryd.prog w a _ .plain rfl

set_option maxHeartbeats 2000000 in
theorem homesIn_any (N : Nst) (a : Option Addr) (c : Nat) (w : World) :
    Calls Tryd.prog 25 #[nstV N a c] w (HomRes N a c w) := by
  have hmf : ∀ (fn : Fn) (first cap : Array Value) (w : World), (Instr.makeFunc fn first cap).run Tryd.prog w = .ok (.func fn first cap) w := fun _ _ _ _ => rfl
  have hst := store_func
  have q0 := index_tabs0 N a c
  have q1 := index_tabs1 N a c
  have S0 := (((St.start w).alloc (nstC N a c) 27).alloc #[.nilFunc, .nilFunc] 47).alloc #[.nilFunc, .nilFunc] 47
  simp only [World.size_alloc] at S0
  obtain ⟨x0, x1, x2, x3, x4, xz⟩ := facts5 (S0.cells 2 rfl)
  go_enter Tryd.func25, Tryd.ntmps25
  go_wp2_with fail
  refine (tables_any N a c _).mono ?_
  rintro e w1 ⟨rfl, hb⟩
  have S1 := S0.below hb
  clear S0 hb x0 x1 x2 x3 x4 xz
  go_wp2_with fail
  go_loopw [4, 5, 8] (fun _ _ i wr => Hid (HomK N a c w i wr)) (fun _ _ i _ => 2 - (intOf i).toNat)
  case atStart => exact Lib.hid (.inl ⟨rfl, S1.turn (by simp)⟩)
  case round =>
    clear S1
    rcases hrel.out with ⟨rfl, S⟩ | ⟨rfl, b1, hb1, S⟩ | ⟨rfl, b1, b2, hb1, hb2, S⟩
    · clear hrel
      obtain ⟨y0, y1, f0, f1, yz⟩ := pairs2 (S.cells 0 rfl)
      have S2 := S.alloc #[.int .i64 N.t, .int .i64 N.p, .slice a N.zs.length c] 36
      obtain ⟨z0, z1, g0, g1, zz⟩ := pairs2 (S2.cells 1 rfl)
      go_wp2_with fail
      go_roundw
      case rel =>
        have S3 := (S.putN 0 rfl 0 (homeV wr.heap.size) (by simp [Far, It.box] <;> omega) (by omega)).alloc (tabD N.one a c) 36
        exact Lib.hid (.inr (.inl ⟨rfl, wr.heap.size, yz, S3.turn (by simp [World.setCell])⟩))
      case measure => simp [intOf]
    · clear hrel
      obtain ⟨y0, y1, f0, f1, yz⟩ := pairs2 (S.cells 1 rfl)
      have S2 := S.alloc #[.int .i64 N.m, .int .i64 N.g, .slice a N.zs.length c] 36
      obtain ⟨z0, z1, g0, g1, zz⟩ := pairs2 (S2.cells 2 rfl)
      go_wp2_with fail
      go_roundw
      case rel =>
        have S3 := (S.putN 1 rfl 1 (homeV wr.heap.size) (by simp [Far, It.box] <;> omega) (by omega)).alloc (tabD N.two a c) 36
        exact Lib.hid (.inr (.inr ⟨rfl, b1, wr.heap.size, hb1, yz, S3.turn (by simp [World.setCell])⟩))
      case measure => simp [intOf]
    · clear hrel
      obtain ⟨y0, y1, f0, f1, yz⟩ := pairs2 (S.cells 2 rfl)
      obtain ⟨z0, z1, g0, g1, zz⟩ := pairs2 (S.cells 3 rfl)
      have S2 := S.putN 3 rfl 0 (homeV b1) (by simp [Far, It.box] <;> omega) (by omega)
      simp only [List.set_cons_zero, List.set_cons_succ] at S2
      have S3 := S2.putN 3 rfl 1 (homeV b2) (by simp [Far, It.box] <;> omega) (by omega)
      simp only [List.set_cons_zero, List.set_cons_succ] at S3
      obtain ⟨r0, r1, _⟩ := pairs2 (S3.cells 3 rfl)
      go_wp2_with fail
      refine bodyPost_ret (v := .agg (homC b1 b2)) (by simp [results, Tryd.results25, go_sem, r0, r1]) rfl ⟨b1, b2, rfl, S3.turn (by simp)⟩

/-- A slot is a home of a key. -/
theorem has_any (N : Nst) (a : Option Addr) (c : Nat) (b1 b2 : Nat) (i : Nat) (key : Int) (w : World) (hv1 : validB N.one = true) (hv2 : validB N.two = true) (h0 : 0 ≤ key) (h9 : key ≤ 99)
    (hB1 : w.heap[b1]? = some (.cells (tabD N.one a c) 36 (0, 0))) (hB2 : w.heap[b2]? = some (.cells (tabD N.two a c) 36 (0, 0))) :
    Calls Tryd.prog 27 #[.agg (homC b1 b2), .int .i64 i, .int .i64 key] w fun e w' => e = .returned (.bool (liesB N i key)) ∧ Below w.heap.size w w' := by
  have hst := store_func
  have HH1 := Lib.hid fun (W : World) (hb : W.heap[b1]? = some (.cells (tabD N.one a c) 36 (0, 0))) => homeF_any N.one a c key b1 W hv1 h0 h9 hb
  have HH2 := Lib.hid fun (W : World) (hb : W.heap[b2]? = some (.cells (tabD N.two a c) 36 (0, 0))) => homeF_any N.two a c key b2 W hv2 h0 h9 hb
  have S0 := (((St.start w).add (It.box b1 (tabD N.one a c) 36) (Nat.succ_le_of_lt (Array.getElem?_eq_some_iff.1 hB1).1) hB1).add (It.box b2 (tabD N.two a c) 36) (Nat.succ_le_of_lt (Array.getElem?_eq_some_iff.1 hB2).1) hB2).alloc (homC b1 b2) 47
  have HL : Hid (liesB N i key = (decide (homeI N.one key = i) || decide (homeI N.two key = i))) := Lib.hid rfl
  generalize homeI N.one key = h1 at HH1 HL
  generalize homeI N.two key = h2 at HH2 HL
  generalize liesB N i key = y at HL ⊢
  obtain ⟨y0, y1, _⟩ := pairs2 (S0.cells 0 rfl)
  cases d1 : (h1 == (i : Int))
  · have e1 : decide (h1 = (i : Int)) = false := by simpa using d1
    rw [e1, Bool.false_or] at HL
    go_enter Tryd.func27, Tryd.ntmps27
    go_wp2_with fail
    refine (HH1.out _ (by exact S0.cells 2 rfl)).mono ?_
    rintro e w1 ⟨rfl, hb⟩
    have S1 := S0.below hb
    clear S0 hb y0 y1
    obtain ⟨y0, y1, _⟩ := pairs2 (S1.cells 0 rfl)
    go_wp2_with fail
    refine (HH2.out _ (by exact S1.cells 1 rfl)).mono ?_
    rintro e w2 ⟨rfl, hb⟩
    have S2 := S1.below hb
    have e2 : (h2 == (i : Int)) = decide (h2 = (i : Int)) := rfl
    clear S1 hb y0 y1 e1
    cases d2 : (h2 == (i : Int))
    all_goals
      go_wp2_with fail
      go_ret
      exact ⟨ret_bool (by rw [HL.out, ← e2, d2]), S2.old⟩
  · have e1 : decide (h1 = (i : Int)) = true := by simpa using d1
    rw [e1, Bool.true_or] at HL
    go_enter Tryd.func27, Tryd.ntmps27
    go_wp2_with fail
    refine (HH1.out _ (by exact S0.cells 2 rfl)).mono ?_
    rintro e w1 ⟨rfl, hb⟩
    have S1 := S0.below hb
    clear S0 hb y0 y1 e1
    go_wp2_with fail
    go_ret
    exact ⟨ret_bool HL.out.symm, S1.old⟩
end Go.Proofs.YtojmjhojgfopaaaDoor

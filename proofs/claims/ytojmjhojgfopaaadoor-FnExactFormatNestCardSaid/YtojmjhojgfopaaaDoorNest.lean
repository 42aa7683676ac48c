/-
  Nests as values, and the laws' own helpers on them: toNest, szNest, eqNest, markNest, heldNest.
-/
import Derived.Test.YtojmjhojgfopaaaDoorNew
import Derived.Test.YtojmjhojgfopaaaDoorCopyRow
import Derived.Test.YtojmjhojgfopaaaDoorMath
namespace Go.Proofs.YtojmjhojgfopaaaDoor
open Go.RowKit

/-- A nest as a value. -/
abbrev nstV (N : Nst) (a : Option Addr) (c : Nat) : Value := .agg #[.int .i64 N.t, .int .i64 N.p, .int .i64 N.m, .int .i64 N.g, .slice a N.zs.length c]
abbrev nstC (N : Nst) (a : Option Addr) (c : Nat) : Array Value := #[.int .i64 N.t, .int .i64 N.p, .int .i64 N.m, .int .i64 N.g, .slice a N.zs.length c]
abbrev nstZ : Array Value := #[.int .i64 0, .int .i64 0, .int .i64 0, .int .i64 0, .slice none 0 0]

theorem facts5 {w : World} {b : Nat} {x0 x1 x2 x3 x4 : Value} {T : TypeId} (h : w.heap[b]? = some (.cells #[x0, x1, x2, x3, x4] T (0, 0))) :
    w.cell? ⟨b, 0, none⟩ = some x0 ∧ w.cell? ⟨b, 1, none⟩ = some x1 ∧ w.cell? ⟨b, 2, none⟩ = some x2 ∧ w.cell? ⟨b, 3, none⟩ = some x3 ∧ w.cell? ⟨b, 4, none⟩ = some x4 ∧ b < w.heap.size :=
  ⟨by simp [World.cell?, h], by simp [World.cell?, h], by simp [World.cell?, h], by simp [World.cell?, h], by simp [World.cell?, h], (Array.getElem?_eq_some_iff.1 h).1⟩
theorem free5 {w : World} {b : Nat} {c : Array Value} {T : TypeId} (h : w.heap[b]? = some (.cells c T (0, 0))) :
    w.frozen? ⟨b, 0, none⟩ = false ∧ w.frozen? ⟨b, 1, none⟩ = false ∧ w.frozen? ⟨b, 2, none⟩ = false ∧ w.frozen? ⟨b, 3, none⟩ = false ∧ w.frozen? ⟨b, 4, none⟩ = false :=
  ⟨by simp [World.frozen?, h], by simp [World.frozen?, h], by simp [World.frozen?, h], by simp [World.frozen?, h], by simp [World.frozen?, h]⟩
/-- Ten cells of two nests that are items. -/
theorem St.ten {w0 w : World} {l : List It} {b1 b2 : Nat} {x0 x1 x2 x3 x4 y0 y1 y2 y3 y4 : Value} {t1 t2 : TypeId} (S : St w0 w l) (i j : Nat) (hi : l[i]? = some (It.box b1 #[x0, x1, x2, x3, x4] t1)) (hj : l[j]? = some (It.box b2 #[y0, y1, y2, y3, y4] t2)) :
    w.cell? ⟨b1, 0, none⟩ = some x0 ∧ w.cell? ⟨b1, 1, none⟩ = some x1 ∧ w.cell? ⟨b1, 2, none⟩ = some x2 ∧ w.cell? ⟨b1, 3, none⟩ = some x3 ∧ w.cell? ⟨b1, 4, none⟩ = some x4 ∧
    w.cell? ⟨b2, 0, none⟩ = some y0 ∧ w.cell? ⟨b2, 1, none⟩ = some y1 ∧ w.cell? ⟨b2, 2, none⟩ = some y2 ∧ w.cell? ⟨b2, 3, none⟩ = some y3 ∧ w.cell? ⟨b2, 4, none⟩ = some y4 := by
  obtain ⟨p0, p1, p2, p3, p4, _⟩ := facts5 (S.cells i hi)
  obtain ⟨q0, q1, q2, q3, q4, _⟩ := facts5 (S.cells j hj)
  exact ⟨p0, p1, p2, p3, p4, q0, q1, q2, q3, q4⟩
/-- A cell of a box that is an item is set. -/
theorem St.putN {w0 w : World} {l : List It} {b : Nat} {c : Array Value} {t : TypeId} (h : St w0 w l) (n : Nat) (hn : l[n]? = some (It.box b c t)) (o : Nat) (x : Value) (hf : Far (It.box b c t) (l.eraseIdx n)) (hlo : w0.heap.size ≤ b) :
    St w0 (w.setCell ⟨b, o, none⟩ x) (l.set n (It.box b (c.setIfInBounds o x) t)) := h.setBoxAt n hn o x (setCell_inRow (h.cells n hn) o x) hf hlo

/-- What a call makes, beside what was there. -/
theorem St.plus {w0 w w' : World} {l l' : List It} (h : St w0 w l) (h' : St w w' l') : St w0 w' (l' ++ l) :=
  ⟨(h.below h'.old).old, fun i hi => (List.mem_append.1 hi).elim (fun k => h'.all i k) (fun k => (h.below h'.old).all i k)⟩

/-- A value that is a nest of the call's own. -/
def NstRes (N : Nst) (w : World) (e : Ending) (w' : World) : Prop := ∃ a c, e = .returned (nstV N a c) ∧ OwnInts w' w.heap.size a N.zs ∧ Below w.heap.size w w'
def NstOk (N : Nst) (ok : Bool) (w : World) (e : Ending) (w' : World) : Prop := ∃ a c, e = .returned (.tuple #[nstV N a c, .bool ok]) ∧ OwnInts w' w.heap.size a N.zs ∧ Below w.heap.size w w'

set_option maxHeartbeats 1000000 in
theorem szNest_big (N : Nst) (a : Option Addr) (c : Nat) (m : Int) (w : World) (hn : N.zs.length ≤ 9223372036854775807) (h0 : 0 ≤ m) (hm : m ≤ 1048576) (h : m < N.zs.length) :
    Calls Tryd.prog 4 #[nstV N a c, .int .i64 m] w fun e w' => e = .returned (.int .i64 (-1)) ∧ Below w.heap.size w w' := by
  go_enter Tryd.func4, Tryd.ntmps4
  go_wp2_with fail
  refine (szIntS_big a _ c m _ hn h0 hm h).mono ?_
  rintro e w' ⟨rfl, rfl⟩
  go_wp2
  go_ret
  exact ⟨rfl, (Below.refl _ _).alloc (Nat.le_refl _) _⟩
set_option maxHeartbeats 1000000 in
theorem szNest_ok (N : Nst) (a : Option Addr) (c : Nat) (m : Int) (w : World) (hm : m ≤ 1048576) (h : N.zs.length ≤ m) :
    Calls Tryd.prog 4 #[nstV N a c, .int .i64 m] w fun e w' => e = .returned (.int .i64 (m - N.zs.length)) ∧ Below w.heap.size w w' := by
  have t1 : decide (m - (N.zs.length : Int) < 0) = false := by simp; omega
  go_enter Tryd.func4, Tryd.ntmps4
  go_wp2_with fail
  refine (szIntS_ok a _ c m _ hm h).mono ?_
  rintro e w' ⟨rfl, rfl⟩
  go_wp2
  go_ret
  exact ⟨rfl, (Below.refl _ _).alloc (Nat.le_refl _) _⟩

set_option maxHeartbeats 1000000 in
theorem eqNest_same (N : Nst) (a1 a2 : Option Addr) (c1 c2 : Nat) (w : World) (hx : N.zs.length ≤ 1073741824) (h1 : IntsAt w a1 N.zs) (h2 : IntsAt w a2 N.zs) :
    Calls Tryd.prog 8 #[nstV N a1 c1, nstV N a2 c2] w fun e w' => e = .returned (.bool true) ∧ Below w.heap.size w w' := by
  go_enter Tryd.func8, Tryd.ntmps8
  go_wp2_with fail
  refine (eqIntS_any a1 a2 c1 c2 N.zs N.zs _ (by omega) (by omega) (by exact h1.below (((Below.refl _ _).alloc (Nat.le_refl _) _).alloc (by simp) _)) (by exact h2.below (((Below.refl _ _).alloc (Nat.le_refl _) _).alloc (by simp) _))).mono ?_
  rintro e w' ⟨rfl, nq, rfl⟩
  rw [decide_eq_true rfl]
  go_wp2
  go_ret
  exact ⟨rfl, below_drewN (((Below.refl _ _).alloc (Nat.le_refl _) _).alloc (by simp) _) _⟩

/-- Five cells of a box that is an item are set, in the order of the cells. -/
theorem St.nest5 {w0 w : World} {l : List It} {b : Nat} {c0 c1 c2 c3 c4 : Value} {t : TypeId} (h : St w0 w l) (n : Nat) (hn : l[n]? = some (It.box b #[c0, c1, c2, c3, c4] t)) (x0 x1 x2 x3 x4 : Value) (hf : Far (It.box b #[c0, c1, c2, c3, c4] t) (l.eraseIdx n)) (hlo : w0.heap.size ≤ b) :
    St w0 (((((w.setCell ⟨b, 0, none⟩ x0).setCell ⟨b, 1, none⟩ x1).setCell ⟨b, 2, none⟩ x2).setCell ⟨b, 3, none⟩ x3).setCell ⟨b, 4, none⟩ x4) (l.set n (It.box b #[x0, x1, x2, x3, x4] t)) := by
  have hl := (List.getElem?_eq_some_iff.1 hn).1
  have S1 := h.putN n hn 0 x0 hf hlo
  have h1 : (l.set n (It.box b (#[c0, c1, c2, c3, c4].setIfInBounds 0 x0) t))[n]? = some (It.box b #[x0, c1, c2, c3, c4] t) := by simp [hl]
  have S2 := S1.putN n h1 1 x1 (by rw [List.eraseIdx_set_eq]; exact Far.box hf) hlo
  rw [List.set_set] at S2
  have h2 : (l.set n (It.box b (#[x0, c1, c2, c3, c4].setIfInBounds 1 x1) t))[n]? = some (It.box b #[x0, x1, c2, c3, c4] t) := by simp [hl]
  have S3 := S2.putN n h2 2 x2 (by rw [List.eraseIdx_set_eq]; exact Far.box hf) hlo
  rw [List.set_set] at S3
  have h3 : (l.set n (It.box b (#[x0, x1, c2, c3, c4].setIfInBounds 2 x2) t))[n]? = some (It.box b #[x0, x1, x2, c3, c4] t) := by simp [hl]
  have S4 := S3.putN n h3 3 x3 (by rw [List.eraseIdx_set_eq]; exact Far.box hf) hlo
  rw [List.set_set] at S4
  have h4 : (l.set n (It.box b (#[x0, x1, x2, c3, c4].setIfInBounds 3 x3) t))[n]? = some (It.box b #[x0, x1, x2, x3, c4] t) := by simp [hl]
  have S5 := S4.putN n h4 4 x4 (by rw [List.eraseIdx_set_eq]; exact Far.box hf) hlo
  rw [List.set_set] at S5
  exact S5

set_option maxHeartbeats 2000000 in
theorem toNest_any (N : Nst) (a : Option Addr) (c : Nat) (w : World) (hn : N.zs.length ≤ 1048576) (h1 : IntsAt w a N.zs) :
    Calls Tryd.prog 6 #[nstV N a c] w (NstRes N w) := by
  have S0 := ((((St.start w).read h1).alloc (nstC N a c) 24).alloc nstZ 27).alloc #[.int .i64 N.t, .int .i64 N.p, .int .i64 N.m, .int .i64 N.g, .slice none 0 0] 27
  simp only [World.size_alloc] at S0
  obtain ⟨x0, x1, x2, x3, x4, xz⟩ := facts5 (S0.cells 2 rfl)
  go_enter Tryd.func6, Tryd.ntmps6
  go_wp2_with fail
  clear x0 x1 x2 x3 x4 xz
  refine (toIntS_any a c N.zs _ hn (by exact S0.reads 3 rfl)).mono ?_
  rintro e w1 ⟨b1, d1, rfl, ho, hb⟩
  have S1 := (S0.below hb).own ho
  have z1 := hb.size
  simp only [World.size_alloc] at S1 z1
  clear S0 ho hb
  obtain ⟨y0, y1, y2, y3, y4, _⟩ := facts5 (S1.cells 1 rfl)
  obtain ⟨f0, f1, f2, f3, f4⟩ := free5 (S1.cells 1 rfl)
  have S2 := S1.putN 1 rfl 4 (.slice b1 N.zs.length d1) (by simp [Far, It.own, It.box, It.read] <;> omega) (by omega)
  simp only [List.set_cons_succ, List.set_cons_zero] at S2
  replace S2 : St w _ [It.own (w.heap.size + 1 + 1 + 1) w1.heap.size b1 N.zs, It.box (w.heap.size + 1 + 1) (nstC N b1 d1) 27, It.box (w.heap.size + 1) nstZ 27, It.box w.heap.size (nstC N a c) 24, It.read w.heap.size a N.zs] := S2
  obtain ⟨u0, u1, u2, u3, u4, _⟩ := facts5 (S2.cells 1 rfl)
  obtain ⟨v0, v1, v2, v3, v4, _⟩ := facts5 (S2.cells 2 rfl)
  obtain ⟨g0, g1, g2, g3, g4⟩ := free5 (S2.cells 2 rfl)
  have S3 := S2.nest5 2 rfl (.int .i64 N.t) (.int .i64 N.p) (.int .i64 N.m) (.int .i64 N.g) (.slice b1 N.zs.length d1) (by simp [Far, It.own, It.box, It.read] <;> omega) (by omega)
  simp only [List.set_cons_succ, List.set_cons_zero] at S3
  obtain ⟨r0, r1, r2, r3, r4, _⟩ := facts5 (S3.cells 2 rfl)
  go_wp2_with fail
  refine bodyPost_ret (v := nstV N b1 d1) (by simp [results, Tryd.results6, go_sem, r0, r1, r2, r3, r4]) rfl ⟨b1, d1, rfl, (S3.owns 0 rfl).mono (by omega), S3.old⟩

end Go.Proofs.YtojmjhojgfopaaaDoor

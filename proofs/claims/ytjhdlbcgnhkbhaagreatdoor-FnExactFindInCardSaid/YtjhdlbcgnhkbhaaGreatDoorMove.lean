/-
  Moves as values, and the laws' own helpers on them: toMove, szMove, eqMove, markMove, heldMove.
-/
import Derived.Test.YtjhdlbcgnhkbhaaGreatDoorNew
import Derived.Test.YtjhdlbcgnhkbhaaGreatDoorCopyRow
import Derived.Test.YtjhdlbcgnhkbhaaGreatDoorMath
namespace Go.Proofs.YtjhdlbcgnhkbhaaGreatDoor
open Go.RowKit

/-- A move as a value. -/
abbrev movV (M : Mov) (a1 : Option Addr) (c1 : Nat) (a2 : Option Addr) (c2 : Nat) : Value :=
  .agg #[.int .i64 M.o.t, .int .i64 M.o.p, .slice a1 M.o.zs.length c1, .int .i64 M.n.t, .int .i64 M.n.p, .slice a2 M.n.zs.length c2, .int .i64 M.x]
abbrev movC (M : Mov) (a1 : Option Addr) (c1 : Nat) (a2 : Option Addr) (c2 : Nat) : Array Value :=
  #[.int .i64 M.o.t, .int .i64 M.o.p, .slice a1 M.o.zs.length c1, .int .i64 M.n.t, .int .i64 M.n.p, .slice a2 M.n.zs.length c2, .int .i64 M.x]
abbrev movZ : Array Value := #[.int .i64 0, .int .i64 0, .slice none 0 0, .int .i64 0, .int .i64 0, .slice none 0 0, .int .i64 0]

/-- What a block of seven cells tells the walk. -/
theorem facts7 {w : World} {b : Nat} {x0 x1 x2 x3 x4 x5 x6 : Value} {T : TypeId} (h : w.heap[b]? = some (.cells #[x0, x1, x2, x3, x4, x5, x6] T (0, 0))) :
    w.cell? ⟨b, 0, none⟩ = some x0 ∧ w.cell? ⟨b, 1, none⟩ = some x1 ∧ w.cell? ⟨b, 2, none⟩ = some x2 ∧ w.cell? ⟨b, 3, none⟩ = some x3 ∧ w.cell? ⟨b, 4, none⟩ = some x4 ∧ w.cell? ⟨b, 5, none⟩ = some x5 ∧ w.cell? ⟨b, 6, none⟩ = some x6 ∧ b < w.heap.size :=
  ⟨by simp [World.cell?, h], by simp [World.cell?, h], by simp [World.cell?, h], by simp [World.cell?, h], by simp [World.cell?, h], by simp [World.cell?, h], by simp [World.cell?, h], (Array.getElem?_eq_some_iff.1 h).1⟩
theorem free7 {w : World} {b : Nat} {c : Array Value} {T : TypeId} (h : w.heap[b]? = some (.cells c T (0, 0))) :
    w.frozen? ⟨b, 0, none⟩ = false ∧ w.frozen? ⟨b, 1, none⟩ = false ∧ w.frozen? ⟨b, 2, none⟩ = false ∧ w.frozen? ⟨b, 3, none⟩ = false ∧ w.frozen? ⟨b, 4, none⟩ = false ∧ w.frozen? ⟨b, 5, none⟩ = false ∧ w.frozen? ⟨b, 6, none⟩ = false :=
  ⟨by simp [World.frozen?, h], by simp [World.frozen?, h], by simp [World.frozen?, h], by simp [World.frozen?, h], by simp [World.frozen?, h], by simp [World.frozen?, h], by simp [World.frozen?, h]⟩

theorem St.seven {w0 w : World} {l : List It} {b : Nat} {x0 x1 x2 x3 x4 x5 x6 : Value} {T : TypeId} (S : St w0 w l) (n : Nat) (hn : l[n]? = some (It.box b #[x0, x1, x2, x3, x4, x5, x6] T)) :
    w.cell? ⟨b, 0, none⟩ = some x0 ∧ w.cell? ⟨b, 1, none⟩ = some x1 ∧ w.cell? ⟨b, 2, none⟩ = some x2 ∧ w.cell? ⟨b, 3, none⟩ = some x3 ∧ w.cell? ⟨b, 4, none⟩ = some x4 ∧ w.cell? ⟨b, 5, none⟩ = some x5 ∧ w.cell? ⟨b, 6, none⟩ = some x6 := by
  obtain ⟨p0, p1, p2, p3, p4, p5, p6, _⟩ := facts7 (S.cells n hn)
  exact ⟨p0, p1, p2, p3, p4, p5, p6⟩
/-- What a call makes, beside what was there. -/
theorem St.more {w0 w w' : World} {l l' : List It} (h : St w0 w l) (h' : St w w' l') : St w0 w' (l' ++ l) :=
  ⟨(h.below h'.old).old, fun i hi => (List.mem_append.1 hi).elim (fun k => h'.all i k) (fun k => (h.below h'.old).all i k)⟩

/-- Three cells of a box that is an item are set. -/
theorem St.put3 {w0 w : World} {l : List It} {b : Nat} {c : Array Value} {t : TypeId} (h : St w0 w l) (n : Nat) (hn : l[n]? = some (It.box b c t)) (o : Nat) (x y z : Value) (hf : Far (It.box b c t) (l.eraseIdx n)) (hlo : w0.heap.size ≤ b) :
    St w0 (((w.setCell ⟨b, o, none⟩ x).setCell ⟨b, o + 1, none⟩ y).setCell ⟨b, o + 2, none⟩ z) (l.set n (It.box b (((c.setIfInBounds o x).setIfInBounds (o + 1) y).setIfInBounds (o + 2) z) t)) := by
  have hl := (List.getElem?_eq_some_iff.1 hn).1
  have S1 := h.setBoxAt n hn o x (setCell_inRow (h.cells n hn) o x) hf hlo
  have h1 : (l.set n (It.box b (c.setIfInBounds o x) t))[n]? = some (It.box b (c.setIfInBounds o x) t) := by simp [hl]
  have S2 := S1.setBoxAt n h1 (o + 1) y (setCell_inRow (S1.cells n h1) (o + 1) y) (by rw [List.eraseIdx_set_eq]; exact Far.box hf) hlo
  rw [List.set_set] at S2
  have h2 : (l.set n (It.box b ((c.setIfInBounds o x).setIfInBounds (o + 1) y) t))[n]? = some (It.box b ((c.setIfInBounds o x).setIfInBounds (o + 1) y) t) := by simp [hl]
  have S3 := S2.setBoxAt n h2 (o + 2) z (setCell_inRow (S2.cells n h2) (o + 2) z) (by rw [List.eraseIdx_set_eq]; exact Far.box hf) hlo
  rw [List.set_set] at S3
  exact S3
theorem St.put {w0 w : World} {l : List It} {b : Nat} {c : Array Value} {t : TypeId} (h : St w0 w l) (n : Nat) (hn : l[n]? = some (It.box b c t)) (o : Nat) (x : Value) (hf : Far (It.box b c t) (l.eraseIdx n)) (hlo : w0.heap.size ≤ b) :
    St w0 (w.setCell ⟨b, o, none⟩ x) (l.set n (It.box b (c.setIfInBounds o x) t)) := h.setBoxAt n hn o x (setCell_inRow (h.cells n hn) o x) hf hlo
/-- Seven cells of a box that is an item are set, in the order of the cells. -/
theorem St.mov7 {w0 w : World} {l : List It} {b : Nat} {c0 c1 c2 c3 c4 c5 c6 : Value} {t : TypeId} (h : St w0 w l) (n : Nat) (hn : l[n]? = some (It.box b #[c0, c1, c2, c3, c4, c5, c6] t)) (x0 x1 x2 x3 x4 x5 x6 : Value) (hf : Far (It.box b #[c0, c1, c2, c3, c4, c5, c6] t) (l.eraseIdx n)) (hlo : w0.heap.size ≤ b) :
    St w0 (((((((w.setCell ⟨b, 0, none⟩ x0).setCell ⟨b, 1, none⟩ x1).setCell ⟨b, 2, none⟩ x2).setCell ⟨b, 3, none⟩ x3).setCell ⟨b, 4, none⟩ x4).setCell ⟨b, 5, none⟩ x5).setCell ⟨b, 6, none⟩ x6) (l.set n (It.box b #[x0, x1, x2, x3, x4, x5, x6] t)) := by
  have hl := (List.getElem?_eq_some_iff.1 hn).1
  have S1 := h.put3 n hn 0 x0 x1 x2 hf hlo
  have h1 : (l.set n (It.box b (((#[c0, c1, c2, c3, c4, c5, c6].setIfInBounds 0 x0).setIfInBounds (0 + 1) x1).setIfInBounds (0 + 2) x2) t))[n]? = some (It.box b #[x0, x1, x2, c3, c4, c5, c6] t) := by simp [hl]
  have S2 := S1.put3 n h1 3 x3 x4 x5 (by rw [List.eraseIdx_set_eq]; exact Far.box hf) hlo
  rw [List.set_set] at S2
  have h2 : (l.set n (It.box b (((#[x0, x1, x2, c3, c4, c5, c6].setIfInBounds 3 x3).setIfInBounds (3 + 1) x4).setIfInBounds (3 + 2) x5) t))[n]? = some (It.box b #[x0, x1, x2, x3, x4, x5, c6] t) := by simp [hl]
  have S3 := S2.put n h2 6 x6 (by rw [List.eraseIdx_set_eq]; exact Far.box hf) hlo
  rw [List.set_set] at S3
  exact S3

/-- Seven cells of a block that is no item are set. -/
theorem St.far7 {w0 w : World} {l : List It} {b : Nat} (h : St w0 w l) (hf : Far (It.box b #[] 0) l) (hlo : w0.heap.size ≤ b) (x0 x1 x2 x3 x4 x5 x6 : Value) :
    St w0 (((((((w.setCell ⟨b, 0, none⟩ x0).setCell ⟨b, 1, none⟩ x1).setCell ⟨b, 2, none⟩ x2).setCell ⟨b, 3, none⟩ x3).setCell ⟨b, 4, none⟩ x4).setCell ⟨b, 5, none⟩ x5).setCell ⟨b, 6, none⟩ x6) l :=
  ((((h.set3Far hf hlo x0 x1 x2).setFar (p := ⟨b, 3, none⟩) hf hlo x3).setFar (p := ⟨b, 4, none⟩) hf hlo x4).setFar (p := ⟨b, 5, none⟩) hf hlo x5).setFar (p := ⟨b, 6, none⟩) hf hlo x6

theorem St.mov0 {w0 w : World} {l : List It} {b : Nat} {c0 c1 c2 c3 c4 c5 c6 : Value} {t : TypeId} (h : St w0 w l) (n : Nat) (hn : l[n]? = some (It.box b #[c0, c1, c2, c3, c4, c5, c6] t)) (x y z : Value) (hf : Far (It.box b #[c0, c1, c2, c3, c4, c5, c6] t) (l.eraseIdx n)) (hlo : w0.heap.size ≤ b) :
    St w0 (((w.setCell ⟨b, 0, none⟩ x).setCell ⟨b, 1, none⟩ y).setCell ⟨b, 2, none⟩ z) (l.set n (It.box b #[x, y, z, c3, c4, c5, c6] t)) := h.put3 n hn 0 x y z hf hlo
theorem St.mov3 {w0 w : World} {l : List It} {b : Nat} {c0 c1 c2 c3 c4 c5 c6 : Value} {t : TypeId} (h : St w0 w l) (n : Nat) (hn : l[n]? = some (It.box b #[c0, c1, c2, c3, c4, c5, c6] t)) (x y z : Value) (hf : Far (It.box b #[c0, c1, c2, c3, c4, c5, c6] t) (l.eraseIdx n)) (hlo : w0.heap.size ≤ b) :
    St w0 (((w.setCell ⟨b, 3, none⟩ x).setCell ⟨b, 4, none⟩ y).setCell ⟨b, 5, none⟩ z) (l.set n (It.box b #[c0, c1, c2, x, y, z, c6] t)) := h.put3 n hn 3 x y z hf hlo
theorem St.mov6 {w0 w : World} {l : List It} {b : Nat} {c0 c1 c2 c3 c4 c5 c6 : Value} {t : TypeId} (h : St w0 w l) (n : Nat) (hn : l[n]? = some (It.box b #[c0, c1, c2, c3, c4, c5, c6] t)) (x : Value) (hf : Far (It.box b #[c0, c1, c2, c3, c4, c5, c6] t) (l.eraseIdx n)) (hlo : w0.heap.size ≤ b) :
    St w0 (w.setCell ⟨b, 6, none⟩ x) (l.set n (It.box b #[c0, c1, c2, c3, c4, c5, x] t)) := h.put n hn 6 x hf hlo
theorem St.keep {w0 w : World} {l : List It} (h : St w0 w l) (l' : List It) (hl : ∀ i ∈ l', i ∈ l) : St w0 w l' := h.turn hl

theorem St.swap {w0 w : World} {i j : It} {l : List It} (h : St w0 w (i :: j :: l)) : St w0 w (j :: i :: l) := h.turn fun k hk => by
  simp only [List.mem_cons] at hk ⊢
  rcases hk with h | h | h
  · exact .inr (.inl h)
  · exact .inl h
  · exact .inr (.inr h)
theorem St.third {w0 w : World} {i j k : It} {l : List It} (h : St w0 w (i :: j :: k :: l)) : St w0 w (k :: i :: j :: l) := h.turn fun x hx => by
  simp only [List.mem_cons] at hx ⊢
  rcases hx with h | h | h | h
  · exact .inr (.inr (.inl h))
  · exact .inl h
  · exact .inr (.inl h)
  · exact .inr (.inr (.inr h))

/-- Two slices that a call has made, one behind the other. -/
theorem St.two {w0 w : World} {l : List It} (h : St w0 w l) {lo1 hi1 lo2 hi2 : Nat} {a1 a2 : Option Addr} {zs1 zs2 : List Int} (i j : Nat) (hi : l[i]? = some (It.own lo2 hi2 a2 zs2)) (hj : l[j]? = some (It.own lo1 hi1 a1 zs1))
    (h1 : w0.heap.size ≤ lo1) (h2 : hi1 ≤ lo2) (h3 : w0.heap.size ≤ lo2) (h4 : lo2 ≤ w.heap.size) : w0.heap.size ≤ lo2 ∧ St w0 w [It.own lo2 w.heap.size a2 zs2, It.own w0.heap.size lo2 a1 zs1] := by
  have k1 := h.get i hi
  have k2 := h.get j hj
  have k3 := (h.all _ (List.mem_of_getElem? hi)).1
  refine ⟨h3, h.old, fun k hk => ?_⟩
  simp only [List.mem_cons, List.not_mem_nil, or_false] at hk
  rcases hk with rfl | rfl
  · exact ⟨Nat.le_refl _, k1.1, fun p hp => Nat.lt_of_lt_of_le (k1.2 p hp) k3⟩
  · exact ⟨h4, k2.1.mono h1, fun p hp => Nat.lt_of_lt_of_le (k2.2 p hp) h2⟩

theorem size_set (w : World) (p : Addr) (v : Value) : (w.setCell p v).heap.size = w.heap.size := by simp [World.setCell]
/-- A slot of a row of one's own is written. -/
theorem St.storeAt {w0 w : World} {l : List It} {lo hi g o : Nat} {zs : List Int} (h : St w0 w l) (n i : Nat) (hi' : i < zs.length) (hn : l[n]? = some (It.own lo hi (some ⟨g, o, none⟩) zs)) (hf : Far (It.own lo hi (some ⟨g, o, none⟩) zs) (l.eraseIdx n)) (hlo : w0.heap.size ≤ lo) (v : Int) :
    St w0 (w.setCell ⟨g, o + i, none⟩ (.int .i64 v)) (l.set n (It.own lo hi (some ⟨g, o, none⟩) (zs.set i v))) :=
  h.markAt (a := some ⟨g, o, none⟩) (w' := w.setCell ⟨g, o + i, none⟩ (.int .i64 v)) ⟨rfl, rfl, rfl, by simp [World.setCell], fun k _ hk => Below.heap_setCell w ⟨g, o + i, none⟩ _ k (fun e => hk (by rw [e]; rfl))⟩ ((h.owns n hn).set i hi' v) n hn hf hlo
theorem movV_put (M : Mov) (k : Nat) (x : Int) (a1 : Option Addr) (c1 : Nat) (a2 : Option Addr) (c2 : Nat) : movV ⟨M.o, putAt M.n k x, M.x⟩ a1 c1 a2 c2 = movV M a1 c1 a2 c2 := by simp [putAt]
theorem movV_old (M : Mov) (k : Nat) (x : Int) (a1 : Option Addr) (c1 : Nat) (a2 : Option Addr) (c2 : Nat) : movV ⟨putAt M.o k x, M.n, M.x⟩ a1 c1 a2 c2 = movV M a1 c1 a2 c2 := by simp [putAt]

/-- A value that is a move of the call's own: the slots of its tables lie apart. -/
def MovRes (M : Mov) (w : World) (e : Ending) (w' : World) : Prop :=
  ∃ a1 c1 a2 c2 mid, e = .returned (movV M a1 c1 a2 c2) ∧ M.o.zs.length ≤ c1 ∧ w.heap.size ≤ mid ∧ St w w' [It.own mid w'.heap.size a2 M.n.zs, It.own w.heap.size mid a1 M.o.zs]
def MovOk (M : Mov) (ok : Bool) (w : World) (e : Ending) (w' : World) : Prop :=
  ∃ a1 c1 a2 c2 mid, e = .returned (.tuple #[movV M a1 c1 a2 c2, .bool ok]) ∧ M.o.zs.length ≤ c1 ∧ w.heap.size ≤ mid ∧ St w w' [It.own mid w'.heap.size a2 M.n.zs, It.own w.heap.size mid a1 M.o.zs]

set_option maxHeartbeats 2000000 in
theorem toMove_any (M : Mov) (a1 : Option Addr) (c1 : Nat) (a2 : Option Addr) (c2 : Nat) (w : World) (hn1 : M.o.zs.length ≤ 1048576) (hn2 : M.n.zs.length ≤ 1048576) (h1 : IntsAt w a1 M.o.zs) (h2 : IntsAt w a2 M.n.zs) :
    Calls Tryz.prog 8 #[movV M a1 c1 a2 c2] w (MovRes M w) := by
  have S0 := (((((St.start w).read h1).read h2).alloc (movC M a1 c1 a2 c2) 26).alloc movZ 32).alloc movZ 32
  simp only [World.size_alloc] at S0
  obtain ⟨x0, x1, x2, x3, x4, x5, x6, xz⟩ := facts7 (S0.cells 2 rfl)
  go_enter Tryz.func8, Tryz.ntmps8
  go_wp2_with fail
  clear x0 x1 x2 x3 x4 x5 x6 xz
  refine (toTable_cap M.o a1 c1 _ hn1 (by exact S0.reads 4 rfl)).mono ?_
  rintro e w1 ⟨b1, rfl, ho, hb⟩
  have S1 := (S0.below hb).own ho
  have z1 := hb.size
  simp only [World.size_alloc] at S1 z1
  clear S0 ho hb
  obtain ⟨f0, f1, f2, _⟩ := free7 (S1.cells 1 rfl)
  obtain ⟨y0, y1, y2, _⟩ := facts7 (S1.cells 1 rfl)
  have S2 := S1.mov0 1 rfl (.int .i64 M.o.t) (.int .i64 M.o.p) (.slice b1 M.o.zs.length M.o.zs.length) (by simp [Far, It.own, It.box, It.read]; omega) (by omega)
  simp only [List.set_cons_succ, List.set_cons_zero] at S2
  obtain ⟨x0, x1, x2, x3, x4, x5, x6, xz⟩ := facts7 (S2.cells 3 rfl)
  go_wp2_with fail
  clear x0 x1 x2 x3 x4 x5 x6 xz f0 f1 f2 y0 y1 y2
  refine (toTable_any M.n a2 c2 _ hn2 (by exact S2.reads 4 rfl)).mono ?_
  rintro e w2 ⟨b2, d2, rfl, ho, hb⟩
  have S3 := (S2.below hb).own ho
  have z2 : w1.heap.size ≤ w2.heap.size := by have := hb.size; simpa [World.setCell] using this
  have ez : (((w1.setCell { block := w.heap.size + 1 + 1, off := 0 } (Value.int IntKind.i64 M.o.t)).setCell { block := w.heap.size + 1 + 1, off := 1 } (Value.int IntKind.i64 M.o.p)).setCell { block := w.heap.size + 1 + 1, off := 2 } (Value.slice b1 M.o.zs.length M.o.zs.length)).heap.size = w1.heap.size := by simp [World.setCell]
  rw [ez] at S3
  clear S2 ho hb ez
  obtain ⟨_, _, _, f3, f4, f5, _⟩ := free7 (S3.cells 2 rfl)
  obtain ⟨_, _, _, y3, y4, y5, _⟩ := facts7 (S3.cells 2 rfl)
  have S4 := S3.mov3 2 rfl (.int .i64 M.n.t) (.int .i64 M.n.p) (.slice b2 M.n.zs.length d2) (by simp [Far, It.own, It.box, It.read]; omega) (by omega)
  simp only [List.set_cons_succ, List.set_cons_zero] at S4
  have S5 := S4.mov6 2 rfl (.int .i64 M.x) (by simp [Far, It.own, It.box, It.read]; omega) (by omega)
  simp only [List.set_cons_succ, List.set_cons_zero] at S5
  obtain ⟨_, _, _, _, _, _, x6, xz⟩ := facts7 (S4.cells 4 rfl)
  obtain ⟨_, _, _, _, _, _, f6⟩ := free7 (S4.cells 2 rfl)
  obtain ⟨u0, u1, u2, u3, u4, u5, u6, uz⟩ := facts7 (S5.cells 2 rfl)
  obtain ⟨v0, v1, v2, v3, v4, v5, v6, vz⟩ := facts7 (S5.cells 3 rfl)
  obtain ⟨g0, g1, g2, g3, g4, g5, g6⟩ := free7 (S5.cells 3 rfl)
  have S6 := S5.mov0 3 rfl (.int .i64 M.o.t) (.int .i64 M.o.p) (.slice b1 M.o.zs.length M.o.zs.length) (by simp [Far, It.own, It.box, It.read]; omega) (by omega)
  simp only [List.set_cons_succ, List.set_cons_zero] at S6
  have S7 := S6.mov3 3 rfl (.int .i64 M.n.t) (.int .i64 M.n.p) (.slice b2 M.n.zs.length d2) (by simp [Far, It.own, It.box, It.read]; omega) (by omega)
  simp only [List.set_cons_succ, List.set_cons_zero] at S7
  have S8 := S7.mov6 3 rfl (.int .i64 M.x) (by simp [Far, It.own, It.box, It.read]; omega) (by omega)
  simp only [List.set_cons_succ, List.set_cons_zero] at S8
  obtain ⟨r0, r1, r2, r3, r4, r5, r6, rz⟩ := facts7 (S8.cells 3 rfl)
  go_wp2_with fail
  refine bodyPost_ret (v := movV M b1 M.o.zs.length b2 d2) (by simp [results, Tryz.results8, go_sem, r0, r1, r2, r3, r4, r5, r6]) rfl ⟨b1, _, b2, d2, _, rfl, Nat.le_refl _, S8.two 0 1 rfl rfl (by omega) (Nat.le_refl _) (by omega) ?_⟩
  simp [World.setCell]; omega

theorem szMove_ok (M : Mov) (a1 : Option Addr) (c1 : Nat) (a2 : Option Addr) (c2 : Nat) (m : Int) (w : World) (hm : m ≤ 1048576) (h : M.o.zs.length + M.n.zs.length ≤ m) :
    Calls Tryz.prog 6 #[movV M a1 c1 a2 c2, .int .i64 m] w fun e w' => e = .returned (.int .i64 (m - M.o.zs.length - M.n.zs.length)) ∧ Below w.heap.size w w' := by
  have S0 := (St.start w).alloc (movC M a1 c1 a2 c2) 26
  have t1 : decide (m - (M.o.zs.length : Int) < 0) = false := by simp; omega
  have t2 : decide (m - (M.o.zs.length : Int) - (M.n.zs.length : Int) < 0) = false := by simp; omega
  obtain ⟨x0, x1, x2, x3, x4, x5, x6, xz⟩ := facts7 (S0.cells 0 rfl)
  go_enter Tryz.func6, Tryz.ntmps6
  go_wp2_with fail
  clear x0 x1 x2 x3 x4 x5 x6 xz
  refine (szTable_ok M.o.t M.o.p a1 M.o.zs.length c1 m _ hm (by omega)).mono ?_
  rintro e w1 ⟨rfl, hb⟩
  have S1 := S0.below hb
  clear S0 hb
  obtain ⟨x0, x1, x2, x3, x4, x5, x6, xz⟩ := facts7 (S1.cells 0 rfl)
  go_wp2_with fail
  clear x0 x1 x2 x3 x4 x5 x6 xz
  refine (szTable_ok M.n.t M.n.p a2 M.n.zs.length c2 (m - M.o.zs.length) _ (by omega) (by omega)).mono ?_
  rintro e w2 ⟨rfl, hb⟩
  have S2 := S1.below hb
  go_wp2_with fail
  go_ret
  exact ⟨rfl, S2.old⟩

theorem szMove_big (M : Mov) (a1 : Option Addr) (c1 : Nat) (a2 : Option Addr) (c2 : Nat) (m : Int) (w : World) (hx1 : M.o.zs.length ≤ 9223372036854775807) (hx2 : M.n.zs.length ≤ 9223372036854775807) (h0 : 0 ≤ m) (hm : m ≤ 1048576) (h : m < M.o.zs.length + M.n.zs.length) :
    Calls Tryz.prog 6 #[movV M a1 c1 a2 c2, .int .i64 m] w fun e w' => e = .returned (.int .i64 (-1)) ∧ Below w.heap.size w w' := by
  have S0 := (St.start w).alloc (movC M a1 c1 a2 c2) 26
  obtain ⟨x0, x1, x2, x3, x4, x5, x6, xz⟩ := facts7 (S0.cells 0 rfl)
  by_cases hs : M.o.zs.length ≤ m
  · have t1 : decide (m - (M.o.zs.length : Int) < 0) = false := by simp; omega
    go_enter Tryz.func6, Tryz.ntmps6
    go_wp2_with fail
    clear x0 x1 x2 x3 x4 x5 x6 xz
    refine (szTable_ok M.o.t M.o.p a1 M.o.zs.length c1 m _ hm (by omega)).mono ?_
    rintro e w1 ⟨rfl, hb⟩
    have S1 := S0.below hb
    clear S0 hb
    obtain ⟨x0, x1, x2, x3, x4, x5, x6, xz⟩ := facts7 (S1.cells 0 rfl)
    go_wp2_with fail
    clear x0 x1 x2 x3 x4 x5 x6 xz
    refine (szTable_big M.n.t M.n.p a2 M.n.zs.length c2 (m - M.o.zs.length) _ hx2 (by omega) (by omega) (by omega)).mono ?_
    rintro e w2 ⟨rfl, hb⟩
    have S2 := S1.below hb
    go_wp2_with fail
    go_ret
    exact ⟨rfl, S2.old⟩
  · go_enter Tryz.func6, Tryz.ntmps6
    go_wp2_with fail
    clear x0 x1 x2 x3 x4 x5 x6 xz
    refine (szTable_big M.o.t M.o.p a1 M.o.zs.length c1 m _ hx1 h0 hm (by omega)).mono ?_
    rintro e w1 ⟨rfl, hb⟩
    have S1 := S0.below hb
    go_wp2_with fail
    go_ret
    exact ⟨rfl, S1.old⟩

set_option maxHeartbeats 1000000 in
theorem eqMove_same (M : Mov) (a1 : Option Addr) (c1 : Nat) (a2 : Option Addr) (c2 : Nat) (a3 : Option Addr) (c3 : Nat) (a4 : Option Addr) (c4 : Nat) (w : World) (hx1 : M.o.zs.length ≤ 1073741824) (hx2 : M.n.zs.length ≤ 1073741824)
    (h1 : IntsAt w a1 M.o.zs) (h2 : IntsAt w a2 M.n.zs) (h3 : IntsAt w a3 M.o.zs) (h4 : IntsAt w a4 M.n.zs) :
    Calls Tryz.prog 10 #[movV M a1 c1 a2 c2, movV M a3 c3 a4 c4] w fun e w' => e = .returned (.bool true) ∧ Below w.heap.size w w' := by
  have S0 := ((((((St.start w).read h1).read h2).read h3).read h4).alloc (movC M a1 c1 a2 c2) 32).alloc (movC M a3 c3 a4 c4) 32
  simp only [World.size_alloc] at S0
  obtain ⟨x0, x1, x2, x3, x4, x5, x6, xz⟩ := facts7 (S0.cells 1 rfl)
  obtain ⟨y0, y1, y2, y3, y4, y5, y6, yz⟩ := facts7 (S0.cells 0 rfl)
  go_enter Tryz.func10, Tryz.ntmps10
  go_wp2_with fail
  clear x0 x1 x2 x3 x4 x5 x6 xz y0 y1 y2 y3 y4 y5 y6 yz
  refine (eqTable_same M.o a1 a3 c1 c3 _ hx1 (by exact S0.reads 5 rfl) (by exact S0.reads 3 rfl)).mono ?_
  rintro e w1 ⟨rfl, hb⟩
  have S1 := S0.below hb
  clear S0 hb
  obtain ⟨x0, x1, x2, x3, x4, x5, x6, xz⟩ := facts7 (S1.cells 1 rfl)
  obtain ⟨y0, y1, y2, y3, y4, y5, y6, yz⟩ := facts7 (S1.cells 0 rfl)
  go_wp2_with fail
  clear x0 x1 x2 x3 x4 x5 x6 xz y0 y1 y2 y3 y4 y5 y6 yz
  refine (eqTable_same M.n a2 a4 c2 c4 _ hx2 (by exact S1.reads 4 rfl) (by exact S1.reads 2 rfl)).mono ?_
  rintro e w2 ⟨rfl, hb⟩
  have S2 := S1.below hb
  clear S1 hb
  obtain ⟨x0, x1, x2, x3, x4, x5, x6, xz⟩ := facts7 (S2.cells 1 rfl)
  obtain ⟨y0, y1, y2, y3, y4, y5, y6, yz⟩ := facts7 (S2.cells 0 rfl)
  go_wp2_with fail
  go_ret
  exact ⟨rfl, S2.old⟩

end Go.Proofs.YtjhdlbcgnhkbhaaGreatDoor

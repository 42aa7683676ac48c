/-
  Tables of free slots, of the model.
-/
import Derived.Test.YtfkdandmedojpaaDoorRow
import Derived.Test.YtfkdandmedojpaaDoorState
namespace Go.Proofs.YtfkdandmedojpaaDoor
open Go.RowKit

/-- A table as a value. -/
abbrev tbl (t p : Int) (a : Option Addr) (n c : Nat) : Value := .agg #[.int .i64 t, .int .i64 p, .slice a n c]

theorem bcell {W w1 : World} (hb : Below W.heap.size W w1) : (∀ b o, b < W.heap.size → w1.cell? ⟨b, o, none⟩ = W.cell? ⟨b, o, none⟩) ∧ (∀ b o, b < W.heap.size → w1.frozen? ⟨b, o, none⟩ = W.frozen? ⟨b, o, none⟩) :=
  ⟨fun b o h => hb.cell (p := ⟨b, o, none⟩) h, fun b o h => hb.frozen (p := ⟨b, o, none⟩) h⟩

/-- What three cells of a block hold in a world, and that they may be written, holds behind what keeps that block. -/
theorem cells3 {W w1 : World} {b : Nat} {x y z : Value} (hb : Below W.heap.size W w1) (hlt : b < W.heap.size)
    (h : W.cell? ⟨b, 0, none⟩ = some x ∧ W.cell? ⟨b, 1, none⟩ = some y ∧ W.cell? ⟨b, 2, none⟩ = some z ∧ (∀ o, W.frozen? ⟨b, o, none⟩ = false)) :
    w1.cell? ⟨b, 0, none⟩ = some x ∧ w1.cell? ⟨b, 1, none⟩ = some y ∧ w1.cell? ⟨b, 2, none⟩ = some z ∧ w1.frozen? ⟨b, 0, none⟩ = false ∧ w1.frozen? ⟨b, 1, none⟩ = false ∧ w1.frozen? ⟨b, 2, none⟩ = false :=
  ⟨(hb.cell (p := ⟨b, 0, none⟩) hlt).trans h.1, (hb.cell (p := ⟨b, 1, none⟩) hlt).trans h.2.1, (hb.cell (p := ⟨b, 2, none⟩) hlt).trans h.2.2.1,
   (hb.frozen (p := ⟨b, 0, none⟩) hlt).trans (h.2.2.2 0), (hb.frozen (p := ⟨b, 1, none⟩) hlt).trans (h.2.2.2 1), (hb.frozen (p := ⟨b, 2, none⟩) hlt).trans (h.2.2.2 2)⟩

/-- A new block of three cells, another one behind it. -/
theorem res3 (w : World) (x y z : Value) (T : TypeId) (o : Obj) :
    ((w.alloc (.cells #[x, y, z] T)).alloc o).cell? ⟨w.heap.size, 0, none⟩ = some x ∧ ((w.alloc (.cells #[x, y, z] T)).alloc o).cell? ⟨w.heap.size, 1, none⟩ = some y ∧
    ((w.alloc (.cells #[x, y, z] T)).alloc o).cell? ⟨w.heap.size, 2, none⟩ = some z ∧ (∀ k, ((w.alloc (.cells #[x, y, z] T)).alloc o).frozen? ⟨w.heap.size, k, none⟩ = false) := by
  refine ⟨?_, ?_, ?_, fun k => ?_⟩
  · rw [World.cell?_alloc_past _ _ _ (by simp), World.cell?_alloc_at _ _ _ _ rfl]; rfl
  · rw [World.cell?_alloc_past _ _ _ (by simp), World.cell?_alloc_at _ _ _ _ rfl]; rfl
  · rw [World.cell?_alloc_past _ _ _ (by simp), World.cell?_alloc_at _ _ _ _ rfl]; rfl
  · rw [World.frozen?_alloc_past _ _ _ (by simp)]; exact World.frozen?_alloc_at _ _ _ _ rfl

theorem res3' (w : World) (x y z : Value) (T : TypeId) :
    (w.alloc (.cells #[x, y, z] T)).cell? ⟨w.heap.size, 0, none⟩ = some x ∧ (w.alloc (.cells #[x, y, z] T)).cell? ⟨w.heap.size, 1, none⟩ = some y ∧
    (w.alloc (.cells #[x, y, z] T)).cell? ⟨w.heap.size, 2, none⟩ = some z ∧ (∀ k, (w.alloc (.cells #[x, y, z] T)).frozen? ⟨w.heap.size, k, none⟩ = false) := by
  refine ⟨?_, ?_, ?_, fun k => ?_⟩
  · rw [World.cell?_alloc_at _ _ _ _ rfl]; rfl
  · rw [World.cell?_alloc_at _ _ _ _ rfl]; rfl
  · rw [World.cell?_alloc_at _ _ _ _ rfl]; rfl
  · exact World.frozen?_alloc_at _ _ _ _ rfl

theorem set3 {B : Nat} {w0 w : World} {b : Nat} (h : Below B w0 w) (hb : B ≤ b) (x y z : Value) : Below B w0 (((w.setCell ⟨b, 0, none⟩ x).setCell ⟨b, 1, none⟩ y).setCell ⟨b, 2, none⟩ z) :=
  ((h.setCell (p := ⟨b, 0, none⟩) hb x).setCell (p := ⟨b, 1, none⟩) hb y).setCell (p := ⟨b, 2, none⟩) hb z

/-- Behind k rounds: the result's own cells at B, the table at B + 2, whose slots are a row of the call's own. -/
structure FreeRel (w : World) (t p : Int) (k : Nat) (v : Value) (wr : World) : Prop where
  res : wr.heap[w.heap.size]? = some (.cells #[.int .i64 0, .int .i64 0, .slice none 0 0] 25 (0, 0))
  out : wr.heap[w.heap.size + 1 + 1]? = some (.cells #[.int .i64 t, .int .i64 p, v] 25 (0, 0))
  own : wr.ownsRow (w.heap.size + 1) 3 1 v k (List.replicate k (.int .i64 (-1)))
  old : Below w.heap.size w wr

theorem ownsRow_ne {w : World} {base : Nat} {e T : TypeId} {size : Nat} {v : Value} {n : Nat} {xs : List Value} {b : Nat} {c : Array Value} {f : Nat × Nat} (h : w.ownsRow base e size v n xs) (hb : w.heap[b]? = some (.cells c T f)) (hne : e ≠ T) : v.ownBlock ≠ some b := by
  intro hv
  rcases h.2 with ⟨rfl, _⟩ | ⟨g, cap, cur, rfl, _, hg, _⟩
  · cases hv
  · cases hv
    rw [hg] at hb
    cases hb
    exact hne rfl

theorem new3 (w : World) (c c1 c2 : Array Value) (t t1 t2 : TypeId) : (((w.alloc (.cells c t)).alloc (.cells c1 t1)).alloc (.cells c2 t2)).heap[w.heap.size]? = some (.cells c t (0, 0)) := by
  rw [Below.heap_alloc _ _ _ (by simp; omega), Below.heap_alloc _ _ _ (by simp)]; exact heap_alloc_new w _

theorem new3' (w : World) (o o1 : Obj) (c2 : Array Value) (t2 : TypeId) : (((w.alloc o).alloc o1).alloc (.cells c2 t2)).heap[w.heap.size + 1 + 1]? = some (.cells c2 t2 (0, 0)) := by
  have := heap_alloc_new ((w.alloc o).alloc o1) (.cells c2 t2)
  simpa using this

theorem setCell_at {w : World} {b : Nat} {c : Array Value} {e : TypeId} {f : Nat × Nat} (h : w.heap[b]? = some (.cells c e f)) (o : Nat) (v : Value) : (w.setCell ⟨b, o, none⟩ v).heap[b]? = some (.cells (c.setIfInBounds o v) e f) := by
  simp [World.setCell, Array.getElem?_modify, h]

theorem ownsRow_slice {w : World} {base : Nat} {e : TypeId} {size : Nat} {v : Value} {n : Nat} {xs : List Value} (h : w.ownsRow base e size v n xs) : ∃ a c, v = .slice a n c := by
  rcases h.2 with ⟨rfl, rfl⟩ | ⟨g, cap, cur, rfl, _⟩
  · exact ⟨_, _, rfl⟩
  · exact ⟨_, _, rfl⟩

theorem ownsRow_ints {w : World} {base : Nat} {e : TypeId} {a : Option Addr} {n c : Nat} {zs : List Int} (h : w.ownsRow base e 1 (.slice a n c) n (zs.map (Value.int .i64))) : OwnInts w base a zs := by
  have hl : zs.length = n := by have := h.1; simpa using this
  rcases h.2 with ⟨hv, h0⟩ | ⟨g, cap, cur, hv, hg, hh, _, _, _, ht⟩
  · cases hv
    exact ⟨fun _ h => (by cases h), fun h => (by omega)⟩
  · cases hv
    have key : ∀ j, j < zs.length → cur[j]? = some (.int .i64 (zs[j]?.getD 0)) := by
      intro j hj
      have h1 : (cur.toList.take (n * 1))[j]? = (zs.map (Value.int .i64))[j]? := by rw [ht]
      rw [List.getElem?_take, if_pos (by omega), List.getElem?_map, List.getElem?_eq_getElem hj] at h1
      rw [List.getElem?_eq_getElem hj]
      simpa using h1
    refine ⟨fun p hp => by cases hp; exact ⟨hg, (Array.getElem?_eq_some_iff.1 hh).1⟩, fun _ => ⟨g, 0, rfl, fun j hj => ?_, fun j _ => ?_⟩⟩
    · rw [Nat.zero_add]
      simp [World.cell?, hh, key j hj]
    · simp [World.frozen?, hh]

theorem ownsRow_more {w : World} {base : Nat} {e : TypeId} {size : Nat} {v : Value} {n : Nat} {xs : List Value} (h : w.ownsRow base e size v (n + 1) xs) : ∃ g cap, v = .slice (some ⟨g, 0, none⟩) (n + 1) cap := by
  rcases h.2 with ⟨_, h0⟩ | ⟨g, cap, cur, rfl, _⟩
  · omega
  · exact ⟨g, cap, rfl⟩

theorem FreeRel.step {w : World} {t p : Int} {k : Nat} {v v' : Value} {wr w1 : World} {o : Obj} (h : FreeRel w t p k v wr) (hown : w1.ownsRow (w.heap.size + 1) 3 1 v' (k + 1) (List.replicate k (.int .i64 (-1)) ++ [.int .i64 (-1)]))
    (hg : (wr.alloc o).grownBy w1 v.ownBlock) : FreeRel w t p (k + 1) v' (w1.setCell ⟨w.heap.size + 1 + 1, 2, none⟩ v') ∧
      w1.heap[w.heap.size]? = some (.cells #[.int .i64 0, .int .i64 0, .slice none 0 0] 25 (0, 0)) ∧
      w1.heap[w.heap.size + 1 + 1]? = some (.cells #[.int .i64 t, .int .i64 p, v] 25 (0, 0)) := by
  have hn0 := ownsRow_ne h.own h.res (by decide)
  have hn2 := ownsRow_ne h.own h.out (by decide)
  have s0 := (Array.getElem?_eq_some_iff.1 h.res).1
  have s2 := (Array.getElem?_eq_some_iff.1 h.out).1
  have e0 : w1.heap[w.heap.size]? = _ := (hg.block _ (by simp; omega) (Ne.symm hn0)).trans ((Below.heap_alloc wr o _ s0).trans h.res)
  have e2 : w1.heap[w.heap.size + 1 + 1]? = _ := (hg.block _ (by simp; omega) (Ne.symm hn2)).trans ((Below.heap_alloc wr o _ s2).trans h.out)
  refine ⟨⟨?_, ?_, ?_, ?_⟩, e0, e2⟩
  · rw [Below.heap_setCell _ _ _ _ (by simp; omega)]; exact e0
  · exact setCell_at e2 _ _
  · rw [← List.replicate_succ'] at hown
    exact hown.kept (row := some (w.heap.size + 1 + 1)) ⟨rfl, rfl, rfl, by simp [World.setCell], fun j _ hj => Below.heap_setCell _ _ _ _ (fun e => hj (by rw [e]))⟩ (.inr (ownsRow_ne hown e2 (by decide)))
  · exact (h.old.trans (((Below.refl _ _).alloc (by omega) o).trans (grownBy_below hg (by simp; omega) (fun j hj => Nat.le_of_succ_le (h.own.lt j hj).1)))).setCell (by simp; omega) _

set_option maxHeartbeats 400000 in
set_option maxRecDepth 100000 in
theorem l1Free_any (n : Nat) (t p : Int) (w : World) (hn : n ≤ 16) :
    Calls Tryd.prog 82 #[.int .i64 n, .int .i64 t, .int .i64 p] w fun e w' => ∃ a c, e = .returned (tbl t p a n c) ∧ OwnInts w' w.heap.size a (List.replicate n (-1)) ∧ Below w.heap.size w w' ∧ w'.ownsRow (w.heap.size + 1) 3 1 (.slice a n c) n ((List.replicate n (-1)).map (Value.int .i64)) := by
  go_enter Tryd.func82, Tryd.ntmps82
  go_wp2
  go_loopw [13] (fun i wr => ∃ (k : Nat) (v : Value), k ≤ n ∧ i = .int .i64 k ∧ FreeRel w t p k v wr) (fun i _ => n - (intOf i).toNat)
  case atStart =>
    refine ⟨0, .slice (some ⟨w.heap.size + 1, 0, none⟩) 0 0, Nat.zero_le _, rfl, ⟨?_, ?_, ?_, ((((Below.refl _ _).alloc (Nat.le_refl _) _).alloc (by simp) _).alloc (by simp; omega) _)⟩⟩
    · exact new3 w _ _ _ _ _ _
    · exact new3' w _ _ _ _
    · have h := World.ownsRow_made (w := w.alloc (.cells #[.int .i64 0, .int .i64 0, .slice none 0 0] 25)) (base := w.heap.size + 1) (e := 3) (size := 1) #[] 0 (by simp) (by unfold maxLen; omega) rfl
      rw [World.size_alloc] at h
      exact h.alloc _
  case round =>
    obtain ⟨k, v, hk, rfl, hr⟩ := hrel
    obtain ⟨q0, q1, q2, f0, f1, f2, hB⟩ := facts3 hr.out
    have HR := Lib.hid hr
    clear hr
    by_cases hlt : k < n
    · obtain ⟨i0, hi, hz0, hz1, hz2⟩ := info_parts Tryd.info3
      have hown := HR.out.own
      go_wp2_with (at_builtin; go_loud (refine wpList_append_own _ rfl _ _ 23 rfl (w.heap.size + 1) 3 i0 (.int .i64 0) 1 8 Tryd.underlying23 hi hz0 hz1 hz2 rfl (by decide) _ _ _ rfl (hown.alloc _) ⟨wr.heap.size, 0, none⟩ 1 1 [.int .i64 (-1)] rfl rfl (cell_one_new _ _ _) (by simp [Value.oneCell']) (by unfold maxLen; omega) (by omega) (by simp; omega) ?_))
      intro v' w1 hown1 hgrow1 _
      obtain ⟨g', cap', rfl⟩ := ownsRow_more hown1
      have hs := HR.out.step hown1 hgrow1
      clear hown hown1 hgrow1
      obtain ⟨r0, r1, r2, g0, g1, g2, hB'⟩ := facts3 hs.2.2
      have HS := Lib.hid hs
      clear hs
      go_wp2
      go_roundw
      case rel => exact ⟨k + 1, _, by omega, by go_num, HS.out.1⟩
      case measure => simp [intOf]; omega
    · obtain ⟨z0, z1, z2, e0, e1, e2, hz⟩ := facts3 HR.out.res
      obtain ⟨a, c, rfl⟩ := ownsRow_slice HR.out.own
      have e : k = n := by omega
      subst e
      go_wp2
      refine bodyPost_ret (v := tbl t p a k c) (by simp [results, Tryd.results82, go_sem, z0, z1, z2]) rfl ⟨a, c, rfl, ?_, set3 HR.out.old (Nat.le_refl _) _ _ _, ?_⟩
      · have ho := (ownsRow_ints (by rw [List.map_replicate]; exact HR.out.own) : OwnInts wr (w.heap.size + 1) a (List.replicate k (-1)))
        exact (((ho.setOther (p := ⟨w.heap.size, 0, none⟩) (by simp) _).setOther (p := ⟨w.heap.size, 1, none⟩) (by simp) _).setOther (p := ⟨w.heap.size, 2, none⟩) (by simp) _).mono (by simp)
      · rw [List.map_replicate]
        exact ownsRow_setCell_below (ownsRow_setCell_below (ownsRow_setCell_below HR.out.own (by show w.heap.size < _; omega) _) (by show w.heap.size < _; omega) _) (by show w.heap.size < _; omega) _

end Go.Proofs.YtfkdandmedojpaaDoor

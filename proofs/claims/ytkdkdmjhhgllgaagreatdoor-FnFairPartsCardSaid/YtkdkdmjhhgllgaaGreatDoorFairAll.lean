/-
  Fair tables: several texts as one.
-/
import Derived.Deep.WholeRow
import Derived.Test.YtkdkdmjhhgllgaaGreatDoorBase
import Derived.Test.YtkdkdmjhhgllgaaGreatDoorAway
import Derived.Test.YtkdkdmjhhgllgaaGreatDoorCopyRow
import Derived.Test.YtkdkdmjhhgllgaaGreatDoorLooksAll
import Derived.Test.YtkdkdmjhhgllgaaGreatDoorMath
import Derived.Sort.QuietThIn
import Derived.Sort.QuietTacIn
import Derived.TacticsIn
import Derived.TacticsInMore
import Derived.Test.YtkdkdmjhhgllgaaGreatDoorLow
import Derived.Test.YtkdkdmjhhgllgaaGreatDoorModel6All
import Derived.Test.YtkdkdmjhhgllgaaGreatDoorShiftsAll
import Derived.Test.YtkdkdmjhhgllgaaGreatDoorFindI
import Derived.Test.YtkdkdmjhhgllgaaGreatDoorDraw2
import Derived.Test.YtkdkdmjhhgllgaaGreatDoorDrawn
import Derived.Test.YtkdkdmjhhgllgaaGreatDoorShelf
import Derived.Test.YtkdkdmjhhgllgaaGreatDoorShelf2
import Derived.Test.YtkdkdmjhhgllgaaGreatDoorCount
import Derived.Test.YtkdkdmjhhgllgaaGreatDoorNew
import Derived.Test.YtkdkdmjhhgllgaaGreatDoorKeys
section
namespace Go.Proofs.YtkdkdmjhhgllgaaGreatDoor
open Go.RowKit

section
variable {P : Program} {ops : Array Oper} {rest : List Oper} {o : Oper} {a : Act} {Q : Exit → Act → World → Prop} {w : World}
/-- An operation whose run is known. -/
theorem wide_value (hgd : o.guard = none) (v : Value) (w' : World) (hr : (execOp a.eval o).run P w = .ok (.value v) w') (h : wpList P ops Q rest (a.put o.dst v) w') : wpList P ops Q (o :: rest) a w := by
  refine wpList_plain hgd fun K hK => ?_
  unfold Oper.wp
  rw [hr]
  exact hK _ _ h
theorem wide_skip (hgd : o.guard = none) (w' : World) (hr : (execOp a.eval o).run P w = .ok .skip w') (h : wpList P ops Q rest (a.put o.dst undef) w') : wpList P ops Q (o :: rest) a w := by
  refine wpList_plain hgd fun K hK => ?_
  unfold Oper.wp
  rw [hr]
  exact hK _ _ h

/-- A variable of many cells is made. -/
theorem wide_alloc (hgd : o.guard = none) (ty : TypeId) (ho : o.op = Op.alloc ty) (z : Array Value) (hz : ∀ w, (zeroValue ty).run P w = .ok (.agg z) w)
    (h : wpList P ops Q rest (a.put o.dst (.pointer (some ⟨w.heap.size, 0, none⟩))) (w.alloc (.cells z ty))) : wpList P ops Q (o :: rest) a w := by
  refine wide_value hgd _ _ ?_ h
  simp [execOp, ho, Instr.alloc, hz, Result.andThen, newVar, newRow, Value.cells, go_sem]
/-- A value of many cells is written over a whole block. -/
theorem wide_store (hgd : o.guard = none) (p v : Operand) (ty : TypeId) (ho : o.op = Op.store ty p v) (b : Nat) (t : TypeId) (old cells : Array Value)
    (hp : a.eval p = .pointer (some ⟨b, 0, none⟩)) (hv : a.eval v = .agg cells) (hg : w.heap[b]? = some (.cells old t (0, 0))) (hi : (P.info? ty).map (·.size) = some cells.size)
    (hs : old.size = cells.size) (h1 : cells.all (·.oneCell') = true) (h : wpList P ops Q rest (a.put o.dst undef) (w.setRow b cells)) : wpList P ops Q (o :: rest) a w := by
  refine wide_skip hgd _ ?_ h
  simp [execOp, ho, hp, hv, Instr.storeAt, Instr.sureAddr, run_storeVar_row (P := P) w b t ty old cells hg hi hs h1, Result.andThen]
/-- A value of many cells is read from a whole block. -/
theorem wide_load (hgd : o.guard = none) (p : Operand) (ty : TypeId) (ho : o.op = Op.load ty p) (b : Nat) (t : TypeId) (cells : Array Value) (fr : Nat × Nat) (d : TypeDesc)
    (hp : a.eval p = .pointer (some ⟨b, 0, none⟩)) (hg : w.heap[b]? = some (.cells cells t fr)) (hu : P.underlying ty = some d) (hd : (match d with | .struct _ | .array _ _ => true | _ => false) = true)
    (hi : (P.info? ty).map (·.size) = some cells.size) (h : wpList P ops Q rest (a.put o.dst (.agg cells)) w) : wpList P ops Q (o :: rest) a w := by
  refine wide_value hgd _ _ ?_ h
  simp [execOp, ho, hp, Instr.loadAt, Instr.sureAddr, run_loadVar_row (P := P) w b t ty cells fr d hg hu hd hi, Result.andThen]
end

theorem heap_setRow {w : World} {b : Nat} {c c' : Array Value} {t : TypeId} {fr : Nat × Nat} (h : w.heap[b]? = some (.cells c t fr)) : (w.setRow b c').heap[b]? = some (.cells c' t fr) := by
  simp [World.setRow, Array.getElem?_modify, h]
theorem grownBy_setRow (w : World) (b : Nat) (c : Array Value) : w.grownBy (w.setRow b c) (some b) :=
  ⟨rfl, rfl, rfl, by simp [World.setRow], fun k _ hk => by
    have : b ≠ k := fun e => hk (by rw [e])
    simp [World.setRow, Array.getElem?_modify, this]⟩
/-- A box is written whole. -/
theorem St.setRowAt {w0 w : World} {l : List It} {b : Nat} {c c' : Array Value} {t : TypeId} (h : St w0 w (It.box b c t :: l)) (hf : Far (It.box b c t) l) (hlo : w0.heap.size ≤ b) : St w0 (w.setRow b c') (It.box b c' t :: l) :=
  h.write (i' := It.box b c' t) (grownBy_setRow w b c') (fun k e => by cases e; exact ⟨Nat.le_refl _, Nat.lt_succ_self _⟩) hf hlo (by
    have h0 := (h.all _ List.mem_cons_self).1
    simpa [It.box, World.setRow] using h0) (heap_setRow (h.cells 0 rfl))

end Go.Proofs.YtkdkdmjhhgllgaaGreatDoor
end

section
namespace Go.Proofs.YtkdkdmjhhgllgaaGreatDoor
open Go.RowKit

/-- What cell j of the spots holds, when the first k slots have theirs: held, home, away. -/
def lzk (T : Tab) (k j : Nat) : Int := if j / 3 < k then (if j % 3 = 0 then nth T.zs (j / 3) else if j % 3 = 1 then homeT T (nth T.zs (j / 3)) else awayOf T ((j / 3 : Nat) : Int)) else 0
theorem lzk_at (T : Tab) (k s : Nat) (hs : s < k) : lzk T k (s * 3) = nth T.zs s ∧ lzk T k (s * 3 + 1) = homeT T (nth T.zs s) ∧ lzk T k (s * 3 + 2) = awayOf T (s : Int) := by
  unfold lzk
  have e0 : s * 3 / 3 = s := by omega
  have e1 : (s * 3 + 1) / 3 = s := by omega
  have e2 : (s * 3 + 2) / 3 = s := by omega
  have f0 : s * 3 % 3 = 0 := by omega
  have f1 : (s * 3 + 1) % 3 = 1 := by omega
  have f2 : (s * 3 + 2) % 3 = 2 := by omega
  rw [e0, e1, e2, f0, f1, f2]
  simp [hs]
theorem lzk_other (T : Tab) (k j : Nat) (h : j / 3 ≠ k) : lzk T (k + 1) j = lzk T k j := by
  unfold lzk
  by_cases c : j / 3 < k
  · rw [if_pos c, if_pos (by omega)]
  · rw [if_neg c, if_neg (by omega)]

/-- A lane as a value, when the first k slots have their spots. -/
def laneK (g : Nat) (T : Tab) (k : Nat) : Array Value := #[.slice (some ⟨g, 0, none⟩) T.zs.length T.zs.length] ++ ((List.range 48).map fun j => Value.int .i64 (lzk T k j)).toArray
def laneZ : Array Value := #[.slice none 0 0] ++ Array.replicate 48 (.int .i64 0)
theorem laneZ_size : laneZ.size = 49 := by simp [laneZ]
theorem laneK_size (g : Nat) (T : Tab) (k : Nat) : (laneK g T k).size = 49 := by simp [laneK]
theorem laneK_one (g : Nat) (T : Tab) (k : Nat) : (laneK g T k).all (·.oneCell') = true := by
  rw [Array.all_eq_true_iff_forall_mem]
  intro x hx
  simp only [laneK, Array.mem_append, List.mem_toArray, List.mem_map, List.mem_singleton, Array.mem_singleton] at hx
  rcases hx with rfl | ⟨j, _, rfl⟩ <;> rfl
theorem laneK_ring (g : Nat) (T : Tab) (k : Nat) : (laneK g T k)[0]? = some (.slice (some ⟨g, 0, none⟩) T.zs.length T.zs.length) := by simp [laneK]
theorem laneK_at (g : Nat) (T : Tab) (k : Nat) {j : Nat} (hj : j < 48) : (laneK g T k)[j + 1]? = some (.int .i64 (lzk T k j)) := by
  unfold laneK
  rw [Array.getElem?_append_right (by simp)]
  simp [hj]
theorem laneK_zero (g : Nat) (T : Tab) : laneK g T 0 = #[.slice (some ⟨g, 0, none⟩) T.zs.length T.zs.length] ++ Array.replicate 48 (.int .i64 0) := by
  unfold laneK
  congr 1
theorem laneK_set (g : Nat) (T : Tab) {k : Nat} (hk : k < 16) :
    (((laneK g T k).setIfInBounds (1 + k * 3) (.int .i64 (nth T.zs k))).setIfInBounds (1 + k * 3 + 1) (.int .i64 (homeT T (nth T.zs k)))).setIfInBounds (1 + k * 3 + 2) (.int .i64 (awayOf T (k : Int))) = laneK g T (k + 1) := by
  obtain ⟨e0, e1, e2⟩ := lzk_at T (k + 1) k (by omega)
  apply Array.ext_getElem?
  intro i
  rw [Array.getElem?_setIfInBounds, Array.getElem?_setIfInBounds, Array.getElem?_setIfInBounds]
  simp only [Array.size_setIfInBounds, laneK_size]
  by_cases h0 : i = 0
  · subst h0
    rw [if_neg (by omega), if_neg (by omega), if_neg (by omega), laneK_ring, laneK_ring]
  obtain ⟨j, rfl⟩ : ∃ j, i = j + 1 := ⟨i - 1, by omega⟩
  by_cases hj : j < 48
  · rw [laneK_at g T (k + 1) hj, laneK_at g T k hj]
    by_cases c2 : j = k * 3 + 2
    · subst c2
      rw [if_pos (by omega), if_pos (by omega), e2]
    · rw [if_neg (by omega)]
      by_cases c1 : j = k * 3 + 1
      · subst c1
        rw [if_pos (by omega), if_pos (by omega), e1]
      · rw [if_neg (by omega)]
        by_cases c0 : j = k * 3
        · subst c0
          rw [if_pos (by omega), if_pos (by omega), e0]
        · rw [if_neg (by omega), lzk_other T k j (by omega)]
  · rw [if_neg (by omega), if_neg (by omega), if_neg (by omega), Array.getElem?_eq_none (by rw [laneK_size]; omega), Array.getElem?_eq_none (by rw [laneK_size]; omega)]

/-- The cells of a lane in its block. -/
theorem lane_cells {w : World} {b g k : Nat} {T : Tab} {t : TypeId} (h : w.heap[b]? = some (.cells (laneK g T k) t (0, 0))) :
    w.cell? ⟨b, 0, none⟩ = some (.slice (some ⟨g, 0, none⟩) T.zs.length T.zs.length) ∧ (∀ j, j < 48 → w.cell? ⟨b, j + 1, none⟩ = some (.int .i64 (lzk T k j))) ∧ ∀ i, w.frozen? ⟨b, i, none⟩ = false := by
  refine ⟨by unfold World.cell?; simp only [h]; exact laneK_ring g T k, fun j hj => by unfold World.cell?; simp only [h]; exact laneK_at g T k hj, fun i => by unfold World.frozen?; simp [h]⟩

/-- Three cells of a box that is an item are set. -/
theorem St.set3At {w0 w : World} {l : List It} {b : Nat} {c : Array Value} {t : TypeId} (h : St w0 w l) (n : Nat) (hn : l[n]? = some (It.box b c t)) (o : Nat) (x y z : Value) (hf : ∀ c', Far (It.box b c' t) (l.eraseIdx n)) (hlo : w0.heap.size ≤ b) :
    St w0 (((w.setCell ⟨b, o, none⟩ x).setCell ⟨b, o + 1, none⟩ y).setCell ⟨b, o + 2, none⟩ z) (l.set n (It.box b (((c.setIfInBounds o x).setIfInBounds (o + 1) y).setIfInBounds (o + 2) z) t)) := by
  have hl := (List.getElem?_eq_some_iff.1 hn).1
  have S1 := h.setBoxAt n hn o x (setCell_inRow (h.cells n hn) o x) (hf _) hlo
  have h1 : (l.set n (It.box b (c.setIfInBounds o x) t))[n]? = some (It.box b (c.setIfInBounds o x) t) := by simp [hl]
  have S2 := S1.setBoxAt n h1 (o + 1) y (setCell_inRow (S1.cells n h1) (o + 1) y) (by rw [List.eraseIdx_set_eq]; exact hf _) hlo
  rw [List.set_set] at S2
  have h2 : (l.set n (It.box b ((c.setIfInBounds o x).setIfInBounds (o + 1) y) t))[n]? = some (It.box b ((c.setIfInBounds o x).setIfInBounds (o + 1) y) t) := by simp [hl]
  have S3 := S2.setBoxAt n h2 (o + 2) z (setCell_inRow (S2.cells n h2) (o + 2) z) (by rw [List.eraseIdx_set_eq]; exact hf _) hlo
  rw [List.set_set] at S3
  exact S3

theorem ring_setRow {w : World} {g b : Nat} {T : Tab} (h : RingAt w g T) (hne : b ≠ g) (c : Array Value) : RingAt (w.setRow b c) g T := fun i hi => by
  have := h i hi
  simpa [World.cell?, World.setRow, Array.getElem?_modify, hne] using this

theorem infoL : (Tryz.prog.info? 78).map (fun i => (i.zero, i.size)) = some (some (.agg laneZ), 49) := by kernel_rfl
theorem laneSize : (Tryz.prog.info? 78).map (·.size) = some 49 := (zero_of_info infoL).2
theorem laneZero : ∀ w, (zeroValue 78).run Tryz.prog w = .ok (.agg laneZ) w := (zero_of_info infoL).1
theorem laneBuild (g : Nat) (T : Tab) (w : World) : (Instr.build 78 #[(0, .slice (some ⟨g, 0, none⟩) T.zs.length T.zs.length)]).run Tryz.prog w = .ok (.agg (laneK g T 0)) w := by
  rw [laneK_zero]
  kernel_rfl
theorem wide_build {P : Program} {ops : Array Oper} {rest : List Oper} {o : Oper} {a : Act} {Q : Exit → Act → World → Prop} {w : World} (hgd : o.guard = none) (ty : TypeId) (x : Operand) (ho : o.op = Op.build ty #[(0, x)]) (v u : Value) (hu : a.eval x = u)
    (hr : (Instr.build ty #[(0, u)]).run P w = .ok v w) (h : wpList P ops Q rest (a.put o.dst v) w) : wpList P ops Q (o :: rest) a w := by
  refine wide_value hgd _ _ ?_ h
  simp [execOp, ho, hu, hr, Result.andThen]

set_option maxRecDepth 100000 in
set_option maxHeartbeats 1000000 in
theorem laneOf_any (T : Tab) (a : Option Addr) (c : Nat) (w : World) (h1 : IntsAt w a T.zs) (hv : validB T = true) :
    Calls Tryz.prog 37 #[tabV T a c] w fun e w' => ∃ g, e = .returned (.agg (laneK g T T.zs.length)) ∧ RingAt w' g T ∧ g < w'.heap.size ∧ w.heap.size ≤ g ∧ Below w.heap.size w w' := by
  obtain ⟨⟨l1, l2⟩, _⟩ := valid_facts hv
  have S0 := (((St.start w).read h1).alloc #[.int .i64 T.t, .int .i64 T.p, .slice a T.zs.length c] 25).alloc laneZ 78
  rw [World.size_alloc] at S0
  go_enter Tryz.func37, Tryz.ntmps37
  go_wp2_with (refine wide_alloc rfl 78 rfl laneZ laneZero ?_)
  refine (ringOf_any T a c _ (by exact S0.reads 2 rfl) hv).mono ?_
  rintro e w1 ⟨g, rfl, hg0, hg, hr, hb⟩
  simp only [World.size_alloc] at hg0
  have S1 := S0.below hb
  have hz1 := S1.old.size
  clear S0 hb
  have S3 := ((St.start w1).alloc laneZ 78).setRowAt (c' := laneK g T 0) trivial (Nat.le_refl _)
  rw [World.setRow_alloc_new] at S3
  have q0 := (lane_cells (S3.cells 0 rfl)).1
  dsimp only
  apply_assumption
  refine wide_build rfl 78 (.tmp 7) rfl (.agg (laneK g T 0)) (.slice (some ⟨g, 0, none⟩) T.zs.length T.zs.length) rfl (laneBuild g T _) ?_
  refine wide_alloc rfl 78 rfl laneZ laneZero ?_
  refine wide_store rfl (.tmp 3) (.tmp 8) 78 rfl w1.heap.size 78 laneZ (laneK g T 0) rfl rfl (heap_alloc_last _ _) (by rw [laneSize, laneK_size]) (by rw [laneZ_size, laneK_size]) (laneK_one g T 0) ?_
  rw [World.setRow_alloc_new]
  go_wp2_with fail
  go_loopw [4, 5, 12] (fun _ _ i wr => ∃ k : Nat, k ≤ T.zs.length ∧ i = .int .i64 k ∧ St w1 wr [It.box w1.heap.size (laneK g T k) 78]) (fun _ _ i _ => T.zs.length - (intOf i).toNat)
  case atStart => exact ⟨0, Nat.zero_le _, rfl, S3⟩
  case round =>
    obtain ⟨k, hk, rfl, Sr⟩ := hrel
    clear S3 q0
    by_cases hlt : k < T.zs.length
    · obtain ⟨r0, r1⟩ := (hr.below Sr.old hg) k hlt
      have SO := S1.below Sr.old
      have zr : w1.heap.size + 1 ≤ wr.heap.size := Sr.sz 0 rfl
      have k16 : k < 16 := by omega
      have j0 : (0 : Int) ≤ (k : Int) := by omega
      have j1 : (k : Int) < 16 := by omega
      have HX : Hid ((((laneK g T k).setIfInBounds (1 + k * 3) (.int .i64 (nth T.zs k))).setIfInBounds (1 + k * 3 + 1) (.int .i64 (homeT T (nth T.zs k)))).setIfInBounds (1 + k * 3 + 2) (.int .i64 (awayOf T (k : Int))) = laneK g T (k + 1)) := Lib.hid (laneK_set g T k16)
      have HA := Lib.hid fun (W : World) (h : IntsAt W a T.zs) => AwayOf_any T a c (k : Int) W (by omega) h
      generalize awayOf T (k : Int) = aw at HX HA
      generalize nth T.zs k = x at r0 r1 HX
      generalize homeT T x = hx at r1 HX
      have SC := SO.alloc #[.int .i64 x, .int .i64 hx] 73
      obtain ⟨x0, x1, x2, x3, x4, x5, xz⟩ := facts3 (SC.cells 2 rfl)
      have SL := (Sr.alloc #[.int .i64 x, .int .i64 hx] 73)
      have SD := SL.drew
      go_wp2_with fail
      go_region_held3 (fun w' => (w'.cell? ⟨w.heap.size, 0, none⟩ = some (.int .i64 T.t) ∧ w'.cell? ⟨w.heap.size, 1, none⟩ = some (.int .i64 T.p) ∧ w'.cell? ⟨w.heap.size, 2, none⟩ = some (.slice a T.zs.length c)) ∧ w'.cell? ⟨wr.heap.size, 0, none⟩ = some (.int .i64 x) ∧ w'.cell? ⟨wr.heap.size, 1, none⟩ = some (.int .i64 hx))
        (first
          | exact ⟨⟨x0, x1, x2⟩, (facts2 (SL.cells 0 rfl)).1, (facts2 (SL.cells 0 rfl)).2.1⟩
          | exact ⟨(S1.below SF.old).three 1 rfl, (facts2 (SF.cells 0 rfl)).1, (facts2 (SF.cells 0 rfl)).2.1⟩
          | exact ⟨(S1.below SE.old).three 1 rfl, (facts2 (SE.cells 0 rfl)).1, (facts2 (SE.cells 0 rfl)).2.1⟩)
        (first
          | (go_at_call 73; refine (HA.out _ (by exact (S1.below SD.old).reads 2 rfl)).mono ?_; rintro e w6 ⟨rfl, hb⟩; have SF := SD.below hb; clear hb; obtain ⟨_, LC, LF⟩ := lane_cells (SF.cells 1 rfl); have c0 : w6.cell? ⟨w1.heap.size, 1 + k * 3, none⟩ = some (.int .i64 (lzk T k (k * 3))) := (by rw [show 1 + k * 3 = k * 3 + 1 from Nat.add_comm _ _]; exact LC (k * 3) (by omega)); have c1 : w6.cell? ⟨w1.heap.size, 1 + k * 3 + 1, none⟩ = some (.int .i64 (lzk T k (k * 3 + 1))) := (by rw [show 1 + k * 3 = k * 3 + 1 from Nat.add_comm _ _]; exact LC (k * 3 + 1) (by omega)); have c2 : w6.cell? ⟨w1.heap.size, 1 + k * 3 + 2, none⟩ = some (.int .i64 (lzk T k (k * 3 + 2))) := (by rw [show 1 + k * 3 = k * 3 + 1 from Nat.add_comm _ _]; exact LC (k * 3 + 2) (by omega)); have f0 := LF (1 + k * 3); have f1 := LF (1 + k * 3 + 1); have f2 := LF (1 + k * 3 + 2); clear LC LF; have SE := SF.set3At 1 rfl (1 + k * 3) (.int .i64 x) (.int .i64 hx) (.int .i64 aw) (fun _ => by simp [Far, It.box] <;> omega) (by omega)))
      have SG : St w1 (((w6.setCell ⟨w1.heap.size, 1 + k * 3, none⟩ (.int .i64 x)).setCell ⟨w1.heap.size, 1 + k * 3 + 1, none⟩ (.int .i64 hx)).setCell ⟨w1.heap.size, 1 + k * 3 + 2, none⟩ (.int .i64 aw)) [It.box wr.heap.size #[.int .i64 x, .int .i64 hx] 73, It.box w1.heap.size ((((laneK g T k).setIfInBounds (1 + k * 3) (.int .i64 x)).setIfInBounds (1 + k * 3 + 1) (.int .i64 hx)).setIfInBounds (1 + k * 3 + 2) (.int .i64 aw)) 78] := SE
      rw [HX.out] at SG
      have SH := SG.turn (l' := [It.box w1.heap.size (laneK g T (k + 1)) 78]) fun i hi => List.mem_cons_of_mem _ hi
      clear SG SE SF SD SL SC SO HX HA x0 x1 x2 x3 x4 x5 xz r0 r1 c0 c1 c2 f0 f1 f2
      go_wp2
      go_roundw
      case rel => exact ⟨k + 1, by omega, by go_num, SH⟩
      case measure => simp [intOf]; omega
    · obtain rfl : k = T.zs.length := by omega
      have SO := S1.below Sr.old
      have SP := SO.setRowAt (c' := laneK g T T.zs.length) (by simp [Far, It.box, It.read] <;> omega) (by omega)
      have hL := Sr.cells 0 rfl
      have hR := ring_setRow (b := w.heap.size + 1) (hr.below Sr.old hg) (by omega) (laneK g T T.zs.length)
      have hz2 := SP.old.size
      have hgz : g < (wr.setRow (w.heap.size + 1) (laneK g T T.zs.length)).heap.size := by have := Sr.old.size; simp [World.setRow]; omega
      go_wp2_with (first
        | refine wide_load rfl (.tmp 3) 78 rfl w1.heap.size 78 (laneK g T T.zs.length) (0, 0) _ rfl hL Tryz.underlying78 rfl (by rw [laneSize, laneK_size]) ?_
        | refine wide_store rfl (.tmp 2) (.tmp 26) 78 rfl (w.heap.size + 1) 78 laneZ (laneK g T T.zs.length) rfl rfl (SO.cells 0 rfl) (by rw [laneSize, laneK_size]) (by rw [laneZ_size, laneK_size]) (laneK_one g T T.zs.length) ?_)
      refine bodyPost_ret (v := .agg (laneK g T T.zs.length)) ?_ rfl ⟨g, rfl, hR, hgz, by omega, SP.old⟩
      have hrow := run_loadVar_row (P := Tryz.prog) (wr.setRow (w.heap.size + 1) (laneK g T T.zs.length)) (w.heap.size + 1) 78 78 (laneK g T T.zs.length) (0, 0) _ (SP.cells 0 rfl) Tryz.underlying78 rfl (by rw [laneSize, laneK_size])
      simp [results, Tryz.results37, asAddr, Act.put, Result.andThen, hrow]

end Go.Proofs.YtkdkdmjhhgllgaaGreatDoor
end

section
namespace Go.Proofs.YtkdkdmjhhgllgaaGreatDoor
open Go.RowKit

/-- A spot as a value. -/
def spotV (x h d : Int) : Value := .agg #[.int .i64 x, .int .i64 h, .int .i64 d]

theorem startOf_any (T : Tab) (a : Option Addr) (c : Nat) (key : Int) (w : World) (hv : validB T = true) (h0 : 0 ≤ key) (h9 : key ≤ 99) (h1 : IntsAt w a T.zs) :
    Calls Tryz.prog 40 #[tabV T a c, .int .i64 key] w fun e w' => e = .returned (spotV key (homeN T key : Nat) 0) ∧ Below w.heap.size w w' := by
  have S0 := (((St.start w).read h1).alloc #[.int .i64 T.t, .int .i64 T.p, .slice a T.zs.length c] 25).alloc #[.int .i64 0, .int .i64 0, .int .i64 0] 75
  rw [World.size_alloc] at S0
  have hh := Lib.hid (homeN_eq hv key)
  obtain ⟨x0, x1, x2, x3, x4, x5, xz⟩ := facts3 (S0.cells 1 rfl)
  go_enter Tryz.func40, Tryz.ntmps40
  go_wp2_with fail
  clear x0 x1 x2 x3 x4 x5 xz
  refine (homeIn_any T a c key _ hv h0 h9).mono ?_
  rw [← hh.out]
  rintro e w1 ⟨rfl, hb⟩
  have S1 := S0.below hb
  clear S0 hb
  obtain ⟨x0, x1, x2, x3, x4, x5, xz⟩ := facts3 (S1.cells 0 rfl)
  have S2 := (S1.turn (l' := []) fun i hi => by cases hi).set3Far (b := w.heap.size + 1) trivial (by omega) (.int .i64 key) (.int .i64 (homeN T key : Nat)) (.int .i64 0)
  go_wp2
  refine bodyPost_ret (v := spotV key (homeN T key : Nat) 0) (by simp [results, Tryz.results40, go_sem, x0, x1, x2, x3, x4, x5, spotV]) rfl ⟨rfl, S2.old⟩

set_option maxHeartbeats 1000000 in
theorem standsAhead_any (x h d y g k : Int) (w : World) :
    Calls Tryz.prog 41 #[spotV x h d, spotV y g k] w fun e w' => e = .returned (.bool (if d = k then decide (x < y) else decide (k < d))) ∧ Below w.heap.size w w' := by
  have S0 := ((St.start w).alloc #[.int .i64 x, .int .i64 h, .int .i64 d] 75).alloc #[.int .i64 y, .int .i64 g, .int .i64 k] 75
  rw [World.size_alloc] at S0
  obtain ⟨x0, x1, x2, x3, x4, x5, xz⟩ := facts3 (S0.cells 1 rfl)
  obtain ⟨y0, y1, y2, y3, y4, y5, yz⟩ := facts3 (S0.cells 0 rfl)
  by_cases e : d = k
  · subst e
    rw [if_pos rfl]
    have b : (d == d) = true := by simp
    unfold spotV
    go_enter Tryz.func41, Tryz.ntmps41
    go_wp2
    go_ret
    exact ⟨rfl, S0.old⟩
  · rw [if_neg e]
    have b : (d == k) = false := beq_eq_false_iff_ne.2 e
    unfold spotV
    go_enter Tryz.func41, Tryz.ntmps41
    go_wp2
    go_ret
    exact ⟨rfl, S0.old⟩

/-- A parameter of many cells is laid. -/
theorem wide_box {P : Program} {ops : Array Oper} {rest : List Oper} {o : Oper} {a : Act} {Q : Exit → Act → World → Prop} {w : World} (hgd : o.guard = none) (ty : TypeId) (x : Operand) (ho : o.op = Op.box ty x) (c : Array Value) (hx : a.eval x = .agg c)
    (h : wpList P ops Q rest (a.put o.dst (.pointer (some ⟨w.heap.size, 0, none⟩))) (w.alloc (.cells c ty))) : wpList P ops Q (o :: rest) a w := by
  refine wide_value hgd _ _ ?_ h
  simp only [execOp, ho, hx]
  simp [Instr.box, Result.andThen, newVar, newRow, Value.cells, go_sem]

end Go.Proofs.YtkdkdmjhhgllgaaGreatDoor
end

section
namespace Go.Proofs.YtkdkdmjhhgllgaaGreatDoor
open Go.RowKit
section
variable {F : Fence} {n : Nat} {P : Program} {ops : Array Oper} {md : Region.Mode} {C : World → Prop}

/-- No operation of a region puts a call off. -/
def noDefer (ops : Array Oper) : Bool := ops.all fun o => match o.op with | .defer _ => false | _ => true
theorem noDefer_at {ops : Array Oper} (h : noDefer ops = true) {i : Nat} {o : Oper} (hi : ops[i]? = some o) : ∀ c, o.op ≠ .defer c := fun c e => by
  unfold noDefer at h
  have := Array.all_eq_true_iff_forall_mem.1 h o (Array.mem_of_getElem? hi)
  rw [e] at this
  cases this

theorem wpIn_of_quietR {o : Oper} {a : Act} {K : Act → Prop} {K' : Act → World → Prop} {Q' : Exit → Act → World → Prop} {w : World} (hd : ∀ c, o.op ≠ .defer c) (hw : C w) (h : ∀ a w', C w' → K a → K' a w')
    (ha : o.askedIn F P a C) (hh : o.quietIn F n P a C K) : o.wpIn F n P a w K' Q' := by
  obtain ⟨v, h1, h2⟩ := hh
  have h3 := h1 w hw
  unfold Oper.quietAtIn at h3
  unfold Oper.wpIn
  refine ⟨ha w hw, ?_⟩
  rw [Oper.semAt_eq _ _ _ hd]
  generalize (execOp a.eval o).run P w = r at *
  cases r with
  | ok x w' =>
    cases x <;> simp only [Oper.quietUponIn] at h3 <;> simp only [Oper.uponIn]
    case value u =>
      obtain ⟨e1, e2⟩ := h3
      rw [e1, e2]
      exact h _ _ hw h2
    case skip =>
      obtain ⟨e1, e2⟩ := h3
      rw [e1, ← e2]
      exact h _ _ hw h2
    case enter f args =>
      obtain ⟨e1, hd, hc⟩ := h3
      rw [e1]
      exact ⟨hd, hc.mono fun e w'' ⟨he, hw''⟩ => by subst he; exact h _ _ hw'' h2⟩
  | halt x w' => simp only [Oper.quietUponIn] at h3

theorem wpOpIn_of_qOpInR (hnd : noDefer ops = true) {i : Nat} {a : Act} {K : Act → Prop} {K' : Act → World → Prop} {Q' : Exit → Act → World → Prop} {w : World} (hC : C w) (h : ∀ a w', C w' → K a → K' a w')
    (hh : qOpIn F n P ops C i K a) : wpOpIn F n P ops Q' i K' a w := by
  unfold qOpIn at hh
  unfold wpOpIn
  split
  · rename_i ho; simp only [ho] at hh; exact h _ _ hC hh
  · rename_i o ho
    simp only [ho] at hh
    obtain ⟨ha, hh⟩ := hh
    split
    · rename_i hw; simp only [hw, if_true] at hh; exact wpIn_of_quietR (noDefer_at hnd ho) hC h ha hh
    · rename_i hw; simp only [hw] at hh; exact ⟨ha w hC, h _ _ hC hh⟩

theorem wpAnyIn_of_quietR (hnd : noDefer ops = true) {Q : Act → Prop} {Q' : Exit → Act → World → Prop} (hQ : ∀ a w, C w → Q a → Q' .normal a w) : ∀ (fuel : Nat) (listed : Array Bool) (a : Act) (w : World), C w →
    wpAnyQIn F n P md ops C Q fuel listed a → wpAnyIn F n P md ops Q' fuel listed a w
  | 0, _, _, _, hw, h => ⟨h.1, hQ _ _ hw h.2⟩
  | fuel + 1, _, _, _, hw, h => ⟨fun h0 => hQ _ _ hw (h.1 h0), fun i hi => wpOpIn_of_qOpInR hnd hw (fun a' w' hw' => wpAnyIn_of_quietR hnd hQ fuel _ a' w' hw') (h.2 i hi)⟩

/-- One walk of the lexical order serves every order, in a round too, over a class of worlds. -/
theorem wpIn_region_quietR {id : Nat} {Q : Exit → Act → World → Prop} {a : Act} {w : World} {l : List Oper} (C : World → Prop) (hm : P.follows .mixedOrders = true) (hB : Region.lexB .any l.toArray = true) (hnd : noDefer l.toArray = true) (hC : C w.drew)
    (h : wpQuietIn F n P l.toArray C (fun a' => ∀ w', C w' → Q .normal a' w') l a) : (Code.region id l.toArray true).wpIn F n P Q a w := by
  simp only [Region.lexB, Bool.and_eq_true] at hB
  refine wpIn_region_any hm (wpAnyIn_of_quietR hnd (Q := fun a' => ∀ w', C w' → Q .normal a' w') (fun _ w' hw' h => h w' hw') _ _ _ _ hC ?_)
  have := wpAnyQIn_lex (F := F) (n := n) (C := C) (md := .any) hB.1 l 0 (Array.replicate l.toArray.size false) a (by simp) (by simpa using hB.2) h
  simpa using this
end

/-- The class of worlds in which what was there lies as it lay. -/
theorem quiet_load {F : Fence} {n : Nat} {P : Program} {C : World → Prop} {o : Oper} {a : Act} {v : Value} (h : ∀ w, C w → (execOp a.eval o).run P w = .ok (.value v) w) : ∀ w, C w → o.quietAtIn F n P a C w v := fun w hw => by
  unfold Oper.quietAtIn Oper.quietUponIn
  rw [h w hw]
  exact ⟨rfl, rfl⟩

section
variable {F : Fence} {n : Nat} {P : Program} {C : World → Prop}

/-- A stand-in for the last operation: it does nothing, and waits for the same. -/
def dumb (o : Oper) : Oper := { o with dst := none, op := .move (.const (.bool false)), guard := none }
/-- Whoever waits does so for operations ahead of it; all are waited for, by the last one or by others that it waits for in turn; no guard asks the last one. -/
def chained (ops : List Oper) : Bool :=
  (List.range ops.length).all fun i => (match ops[i]? with
    | none => true
    | some o => o.after.all (fun e => !Region.binds .any e || decide (e.on < i)) && (match o.guard with | none => true | some (g : Nat × Bool) => decide (g.1 + 1 < ops.length))) &&
    (decide (i + 1 = ops.length) || (List.range ops.length).any fun k => decide (i < k) && match ops[k]? with
      | none => false
      | some o => o.after.any fun e => Region.binds .any e && e.on == i)

structure Chain (l : List Oper) (o : Oper) : Prop where
  down : ∀ (i : Nat) (oi : Oper), (l ++ [o])[i]? = some oi → ∀ e ∈ oi.after, Region.binds .any e = true → e.on < i
  grd : ∀ (i : Nat) (oi : Oper), (l ++ [o])[i]? = some oi → ∀ g : Nat × Bool, oi.guard = some g → g.1 < l.length
  next : ∀ i, i < l.length → ∃ (k : Nat) (ok : Oper), i < k ∧ (l ++ [o])[k]? = some ok ∧ ∃ e ∈ ok.after, Region.binds .any e = true ∧ e.on = i
theorem chain_of {l : List Oper} {o : Oper} (h : chained (l ++ [o]) = true) : Chain l o := by
  have key : ∀ (i : Nat) (oi : Oper), (l ++ [o])[i]? = some oi → (oi.after.all (fun e => !Region.binds .any e || decide (e.on < i)) = true ∧ (match oi.guard with | none => true | some (g : Nat × Bool) => decide (g.1 + 1 < (l ++ [o]).length)) = true) ∧
      (decide (i + 1 = (l ++ [o]).length) = true ∨ (List.range (l ++ [o]).length).any (fun k => decide (i < k) && match (l ++ [o])[k]? with
      | none => false
      | some o => o.after.any fun e => Region.binds .any e && e.on == i) = true) := by
    intro i oi hi
    have hlt := (List.getElem?_eq_some_iff.1 hi).1
    have h1 := List.all_eq_true.1 h i (List.mem_range.2 hlt)
    simp only [hi, Bool.and_eq_true, Bool.or_eq_true] at h1
    exact h1
  refine ⟨fun i oi hi e he hb => ?_, fun i oi hi g hg => ?_, fun i hi => ?_⟩
  · have h1 := Array.all_eq_true_iff_forall_mem.1 (key i oi hi).1.1 e he
    simp only [hb, Bool.not_true, Bool.false_or, decide_eq_true_eq] at h1
    exact h1
  · have h1 := (key i oi hi).1.2
    rw [hg] at h1
    simp only [decide_eq_true_eq, List.length_append, List.length_cons, List.length_nil] at h1
    omega
  · obtain ⟨oi, hoi⟩ : ∃ oi, (l ++ [o])[i]? = some oi := ⟨(l ++ [o])[i]'(by simp; omega), List.getElem?_eq_getElem _⟩
    rcases (key i oi hoi).2 with h1 | h1
    · simp at h1; omega
    · obtain ⟨k, hk, h2⟩ := List.any_eq_true.1 h1
      simp only [Bool.and_eq_true, decide_eq_true_eq] at h2
      obtain ⟨h3, h4⟩ := h2
      cases hok : (l ++ [o])[k]? with
      | none => rw [hok] at h4; cases h4
      | some ok =>
        rw [hok] at h4
        obtain ⟨e, he, h5⟩ := Array.any_eq_true'.1 h4
        simp only [Bool.and_eq_true, beq_iff_eq] at h5
        exact ⟨k, ok, h3, hok, e, he, h5.1, h5.2⟩

theorem dumb_at {l : List Oper} {o oi : Oper} {i : Nat} (h : (l ++ [o])[i]? = some oi) : (i < l.length ∧ (l ++ [dumb o])[i]? = some oi) ∨ (i = l.length ∧ oi = o ∧ (l ++ [dumb o])[i]? = some (dumb o)) := by
  have hlt := (List.getElem?_eq_some_iff.1 h).1
  simp only [List.length_append, List.length_cons, List.length_nil] at hlt
  by_cases hi : i < l.length
  · left
    rw [List.getElem?_append_left hi] at h ⊢
    exact ⟨hi, h⟩
  · right
    obtain rfl : i = l.length := by omega
    simp at h ⊢
    exact h.symm
theorem dumb_back {l : List Oper} {o oi : Oper} {i : Nat} (h : (l ++ [dumb o])[i]? = some oi) : ∃ oj, (l ++ [o])[i]? = some oj ∧ oj.after = oi.after := by
  have hlt := (List.getElem?_eq_some_iff.1 h).1
  simp only [List.length_append, List.length_cons, List.length_nil] at hlt
  by_cases hi : i < l.length
  · rw [List.getElem?_append_left hi] at h ⊢
    exact ⟨oi, h, rfl⟩
  · obtain rfl : i = l.length := by omega
    simp at h ⊢
    rw [← h]; rfl
theorem ready_dumb {l : List Oper} {o : Oper} {listed : Array Bool} {i : Nat} : i ∈ Region.ready .any (l ++ [o]).toArray listed ↔ i ∈ Region.ready .any (l ++ [dumb o]).toArray listed := by
  rw [mem_ready, mem_ready]
  simp only [List.getElem?_toArray]
  constructor
  · rintro ⟨h0, oi, hoi, h⟩
    rcases dumb_at hoi with ⟨_, h1⟩ | ⟨_, rfl, h1⟩
    · exact ⟨h0, oi, h1, h⟩
    · exact ⟨h0, _, h1, h⟩
  · rintro ⟨h0, oi, hoi, h⟩
    obtain ⟨oj, h1, h2⟩ := dumb_back hoi
    exact ⟨h0, oj, h1, by rw [h2]; exact h⟩
theorem wanted_dumb {l : List Oper} {o oi : Oper} (h : ∀ g : Nat × Bool, oi.guard = some g → g.1 < l.length) (t : Array Value) : Region.wanted oi (yielded (l ++ [dumb o]).toArray t) = Region.wanted oi (yielded (l ++ [o]).toArray t) := by
  unfold Region.wanted
  cases hg : oi.guard with
  | none => rfl
  | some g =>
    have hl := h g hg
    have e : yielded (l ++ [dumb o]).toArray t g.1 = yielded (l ++ [o]).toArray t g.1 := by
      unfold yielded
      simp only [List.getElem?_toArray]
      rw [List.getElem?_append_left hl, List.getElem?_append_left hl]
    obtain ⟨g1, g2⟩ := g
    simp only at e ⊢
    rw [e]

/-- Who has been taken has waited. -/
def Closed (ops : Array Oper) (listed : Array Bool) : Prop := ∀ (j : Nat) (oj : Oper), ops[j]? = some oj → listed.getD j false = true → ∀ e ∈ oj.after, Region.binds .any e = true → listed.getD e.on false = true
theorem Closed.set {ops : Array Oper} {listed : Array Bool} (h : Closed ops listed) {i : Nat} (hi : i ∈ Region.ready .any ops listed) : Closed ops (listed.setIfInBounds i true) := by
  intro j oj hj hl e he hb
  obtain ⟨_, oi, hoi, hall⟩ := mem_ready.1 hi
  by_cases hij : i = j
  · subst hij
    rw [hoi] at hj; cases hj
    exact getD_set_true (hall e he hb)
  · rw [getD_set_ne false hij] at hl
    exact getD_set_true (h j oj hj hl e he hb)
theorem last_all {l : List Oper} {o : Oper} (H : Chain l o) {listed : Array Bool} (hc : Closed (l ++ [o]).toArray listed) (hr : l.length ∈ Region.ready .any (l ++ [o]).toArray listed) : ∀ q j, j + q = l.length → j < l.length → listed.getD j false = true := by
  obtain ⟨_, oo, hoo, hall⟩ := mem_ready.1 hr
  intro q
  induction q using Nat.strongRecOn with
  | ind q ih =>
    intro j hq hj
    obtain ⟨k, ok, hk, hok, e, he, hb, heq⟩ := H.next j hj
    have hkl := (List.getElem?_eq_some_iff.1 hok).1
    simp only [List.length_append, List.length_cons, List.length_nil] at hkl
    by_cases hkm : k = l.length
    · subst hkm
      simp only [List.getElem?_toArray] at hoo
      rw [hok] at hoo; cases hoo
      rw [← heq]; exact hall e he hb
    · have := hc k ok (by simpa using hok) (ih (l.length - k) (by omega) k (by omega) (by omega)) e he hb
      rwa [heq] at this
theorem some_ready {l : List Oper} {o : Oper} (H : Chain l o) {listed : Array Bool} (hs : listed.size = l.length + 1) (hm : listed.getD l.length true = false) : Region.ready .any (l ++ [o]).toArray listed ≠ [] := by
  have key : ∀ q j, q = j → j < l.length + 1 → listed.getD j true = false → ∃ i, i ∈ Region.ready .any (l ++ [o]).toArray listed := by
    intro q
    induction q using Nat.strongRecOn with
    | ind q ih =>
      intro j hq hj hun
      by_cases hall : ∀ i, i < j → listed.getD i true = true
      · obtain ⟨oj, hoj⟩ : ∃ oj, (l ++ [o])[j]? = some oj := ⟨(l ++ [o])[j]'(by simp; omega), List.getElem?_eq_getElem _⟩
        refine ⟨j, mem_ready.2 ⟨hun, oj, by simpa using hoj, fun e he hb => ?_⟩⟩
        have hd := H.down j oj hoj e he hb
        have := hall e.on hd
        have hlt : e.on < listed.size := by omega
        simp [Array.getD, hlt] at this ⊢
        exact this
      · obtain ⟨i, hi⟩ := Classical.not_forall.1 hall
        obtain ⟨h1, h2⟩ := Classical.not_imp.1 hi
        exact ih i (by omega) i rfl (by omega) (by simpa using h2)
  obtain ⟨i, hi⟩ := key _ _ rfl (Nat.lt_succ_self _) hm
  intro e
  rw [e] at hi
  cases hi

theorem anyIn_of_last {l : List Oper} {o : Oper} {Q : Exit → Act → World → Prop} (H : Chain l o) (hnd : noDefer l.toArray = true) (hgo : o.guard = none) : ∀ (fuel : Nat) (listed : Array Bool) (a : Act) (w : World), C w → Closed (l ++ [o]).toArray listed →
    listed.size = l.length + 1 → listed.getD l.length true = false → wpAnyQIn F n P .any (l ++ [dumb o]).toArray C (fun a' => ∀ w', C w' → o.wpIn F n P a' w' (fun a w => Q .normal a w) Q) fuel listed a → wpAnyIn F n P .any (l ++ [o]).toArray Q fuel listed a w := by
  intro fuel
  induction fuel with
  | zero =>
    intro listed a w hw hc hs hm h
    exact absurd (List.eq_nil_iff_forall_not_mem.2 fun i hi => by have := h.1; rw [ready_dumb, this] at hi; cases hi) (some_ready H hs hm)
  | succ fuel ih =>
    intro listed a w hw hc hs hm h
    refine ⟨fun h0 => absurd h0 (some_ready H hs hm), fun i hi => ?_⟩
    have hq := h.2 i (ready_dumb.1 hi)
    obtain ⟨hun, oi, hoi, _⟩ := mem_ready.1 hi
    simp only [List.getElem?_toArray] at hoi
    rcases dumb_at hoi with ⟨hlt, h1⟩ | ⟨rfl, rfl, h1⟩
    · have hn : ∀ c, oi.op ≠ .defer c := noDefer_at hnd (i := i) (by
        rw [List.getElem?_append_left hlt] at hoi
        simpa using hoi)
      have hrec : ∀ a' w', C w' → wpAnyQIn F n P .any (l ++ [dumb o]).toArray C (fun a' => ∀ w', C w' → o.wpIn F n P a' w' (fun a w => Q .normal a w) Q) fuel (listed.setIfInBounds i true) a' → wpAnyIn F n P .any (l ++ [o]).toArray Q fuel (listed.setIfInBounds i true) a' w' := fun a' w' hw' h' =>
        ih _ a' w' hw' (hc.set hi) (by simpa using hs) (by rw [getD_set_ne true (by omega)]; exact hm) h'
      unfold qOpIn at hq
      unfold wpOpIn
      simp only [List.getElem?_toArray, h1, hoi] at hq ⊢
      obtain ⟨ha, hq⟩ := hq
      rw [wanted_dumb (H.grd i oi hoi)] at hq
      split
      · rename_i hwt; simp only [hwt, if_true] at hq; exact wpIn_of_quietR hn hw hrec ha hq
      · rename_i hwt; simp only [hwt] at hq; exact ⟨ha w hw, hrec _ _ hw hq⟩
    · have hall := last_all H hc hi
      have hnone : Region.ready .any (l ++ [oi]).toArray (listed.setIfInBounds l.length true) = [] := List.eq_nil_iff_forall_not_mem.2 fun j hj => by
        obtain ⟨hj0, oj, hoj, _⟩ := mem_ready.1 hj
        simp only [List.getElem?_toArray] at hoj
        have hjl := (List.getElem?_eq_some_iff.1 hoj).1
        simp only [List.length_append, List.length_cons, List.length_nil] at hjl
        by_cases e : l.length = j
        · subst e
          simp [hs] at hj0
        · rw [getD_set_ne true e] at hj0
          have h3 := hall (l.length - j) j (by omega) (by omega)
          have hlt : j < listed.size := by omega
          simp [hlt] at hj0 h3
          rw [hj0] at h3; cases h3
      have hnone2 : Region.ready .any (l ++ [dumb oi]).toArray (listed.setIfInBounds l.length true) = [] := List.eq_nil_iff_forall_not_mem.2 fun j hj => by
        rw [← ready_dumb, hnone] at hj; cases hj
      unfold qOpIn at hq
      unfold wpOpIn
      simp only [List.getElem?_toArray, h1, hoi] at hq ⊢
      rw [if_pos (by simp [Region.wanted, hgo])]
      obtain ⟨_, hq⟩ := hq
      rw [if_pos (by simp [Region.wanted, dumb])] at hq
      obtain ⟨v, _, hq⟩ := hq
      have hq2 : ∀ w', C w' → oi.wpIn F n P a w' (fun a w => Q .normal a w) Q := by
        cases fuel with
        | zero => exact hq.2
        | succ fuel => exact hq.1 hnone2
      refine Oper.wpIn_mono (fun a' w' h' => ?_) (hq2 w hw)
      cases fuel with
      | zero => exact ⟨hnone, h'⟩
      | succ fuel => exact ⟨fun _ => h', fun j hj => by rw [hnone] at hj; cases hj⟩

theorem wpQuietIn_snoc {ops : Array Oper} {Q Q' : Act → Prop} {o : Oper} : ∀ (l : List Oper) (a : Act), (∀ a, Q a → wpQuietIn F n P ops C Q' [o] a) → wpQuietIn F n P ops C Q l a → wpQuietIn F n P ops C Q' (l ++ [o]) a
  | [], a, h, hq => h a hq
  | p :: l, a, h, hq => by
    refine ⟨hq.1, ?_⟩
    have h2 := hq.2
    split
    · rename_i hw; simp only [hw, if_true] at h2; exact Oper.quietIn_mono (fun a' h' => wpQuietIn_snoc l a' h h') h2
    · rename_i hw; simp only [hw] at h2; exact wpQuietIn_snoc l _ h h2

/-- One walk of the lexical order, the last operation apart: it waits for all others, and may do what it likes. -/
theorem wpIn_region_last {id : Nat} {Q : Exit → Act → World → Prop} {a : Act} {w : World} {l : List Oper} {o : Oper} (C : World → Prop) (hm : P.follows .mixedOrders = true) (hB : Region.lexB .any (l ++ [dumb o]).toArray = true) (hnd : noDefer l.toArray = true)
    (hch : chained (l ++ [o]) = true) (hgo : o.guard = none) (hC : C w.drew)
    (h : wpQuietIn F n P (l ++ [dumb o]).toArray C (fun a' => ∀ w', C w' → o.wpIn F n P a' w' (fun a w => Q .normal a w) Q) l a) : (Code.region id (l ++ [o]).toArray true).wpIn F n P Q a w := by
  have H := chain_of hch
  simp only [Region.lexB, Bool.and_eq_true] at hB
  have hsz : (l ++ [o]).toArray.size = l.length + 1 := by simp
  have hsz2 : (l ++ [dumb o]).toArray.size = l.length + 1 := by simp
  refine wpIn_region_any hm ?_
  rw [hsz]
  have h1 : wpQuietIn F n P (l ++ [dumb o]).toArray C (fun a' => ∀ w', C w' → o.wpIn F n P a' w' (fun a w => Q .normal a w) Q) (l ++ [dumb o]) a := by
    refine wpQuietIn_snoc l a (fun a' h' => ⟨fun w' _ f hf => ?_, ?_⟩) h
    · simp [dumb, Oper.about] at hf
    · rw [if_pos (by simp [Region.wanted, dumb])]
      refine ⟨.bool false, fun w' hw' => ?_, h'⟩
      simp [Oper.quietAtIn, Oper.quietUponIn, dumb, execOp, Act.eval]
  have h2 := wpAnyQIn_lex (F := F) (n := n) (C := C) (md := .any) hB.1 (l ++ [dumb o]) 0 (Array.replicate (l.length + 1) false) a (by simp) (by rw [← hsz2]; simpa using hB.2) h1
  rw [show (l ++ [dumb o]).length = l.length + 1 by simp] at h2
  exact anyIn_of_last H hnd hgo _ _ _ _ hC (fun j oj _ hl => by simp [Array.getElem?_replicate] at hl; split at hl <;> simp at hl) (by simp) (by simp) h2
end

end Go.Proofs.YtkdkdmjhhgllgaaGreatDoor
end

section
namespace Go.Proofs.YtkdkdmjhhgllgaaGreatDoor
open Go.RowKit Go.Shelf
attribute [local go_sem] Oper.semAt_some

/-- What passed's variables hold when a key has come so far. -/
abbrev passIt (T : Tab) (g : Nat) (key : Int) (hn wz n : Nat) : List It :=
  [It.box (wz + 1) #[.int .i64 key, .int .i64 hn, .int .i64 n] 75, It.box wz (laneK g T T.zs.length) 78, It.box (wz + 1 + 1) #[.func (.func 41) #[] #[]] 85]
/-- All that have been passed stand ahead. -/
def AllAhead (T : Tab) (key : Int) (hn : Nat) (pre : List Nat) : Prop := ∀ i x, pre[i]? = some x → aheadB T (stepS T hn x) key i = true
theorem AllAhead.snoc {T : Tab} {key : Int} {hn : Nat} {pre : List Nat} {x : Nat} (h : AllAhead T key hn pre) (hx : aheadB T (stepS T hn x) key pre.length = true) : AllAhead T key hn (pre ++ [x]) := fun i y hy => by
  rw [List.getElem?_append] at hy
  split at hy
  · exact h i y hy
  · rename_i hi
    obtain rfl : i = pre.length := by
      have := (List.getElem?_eq_some_iff.1 hy).1
      simp at this; omega
    simp at hy
    subst hy
    exact hx
def PassOut (T : Tab) (g : Nat) (key : Int) (hn : Nat) (w : World) (B : Nat) (c : Code) (pre : List Nat) (W : World) : Prop :=
  ∃ pre' x, c = .exit 0 ∧ pre = pre' ++ [x] ∧ AllAhead T key hn pre' ∧ aheadB T (stepS T hn x) key pre'.length = false ∧ St w W (passIt T g key hn w.heap.size pre'.length) ∧ B ≤ W.heap.size
theorem PassOut.own {T : Tab} {g : Nat} {key : Int} {hn : Nat} {w : World} {B : Nat} (hB : w.heap.size + 3 ≤ B) (c : Code) : OwnFrom B (PassOut T g key hn w B c) := by
  rintro s A B' row ⟨pre', x, h1, h2, h3, h4, h5, h6⟩ hg hr
  exact ⟨pre', x, h1, h2, h3, h4, h5.grown2 hg (fun k e => ⟨by have := (hr k e).1; omega, fun i hi => .inr (by
      have := (hr k e).1
      simp only [List.mem_cons, List.not_mem_nil, or_false] at hi
      rcases hi with rfl | rfl | rfl <;> simp [It.box] <;> omega)⟩), Nat.le_trans h6 hg.size⟩

theorem keepsF_below {B : Nat} {W W' : World} (h : Below W.heap.size W W') : KeepsFrom B W W' := ⟨h.size, fun k o _ hk _ => (h.block k (Array.getElem?_eq_some_iff.1 hk).1).trans hk⟩

/-- The function value that passed is handed. -/
def aheadF : Value := .func (.func 41) #[] #[]

theorem range_snoc3 {k : Nat} {pre : List Nat} {x : Nat} (he : List.range k = pre ++ [x]) : k = pre.length + 1 ∧ x = pre.length ∧ pre = List.range pre.length := by
  have hl : k = pre.length + 1 := by have := congrArg List.length he; simpa using this
  subst hl
  rw [List.range_succ] at he
  obtain ⟨e1, e2⟩ := List.append_inj' he rfl
  exact ⟨rfl, by simpa using e2.symm, e1.symm⟩
theorem AllAhead.range {T : Tab} {key : Int} {hn n : Nat} (h : AllAhead T key hn (List.range n)) {d : Nat} (hd : d < n) : aheadB T (stepS T hn d) key d = true := h d d (by simp [hd])
theorem pass_all {T : Tab} {key : Int} {hn n : Nat} (h : AllAhead T key hn (List.range n)) : goN (fun d => !aheadB T (stepS T hn d) key d) n = n := by
  refine Nat.le_antisymm (goN_le _ _) (Nat.le_of_not_lt fun hn2 => ?_)
  have h1 := goN_stop (p := fun d => !aheadB T (stepS T hn d) key d) hn2
  rw [h.range hn2] at h1
  simp at h1
theorem pass_stop {T : Tab} {key : Int} {hn n k : Nat} {pre : List Nat} {x : Nat} (hk : k ≤ n) (he : List.range k = pre ++ [x]) (h : AllAhead T key hn pre) (hs : aheadB T (stepS T hn x) key pre.length = false) :
    goN (fun d => !aheadB T (stepS T hn d) key d) n = pre.length := by
  obtain ⟨e1, e2, e3⟩ := range_snoc3 he
  rw [e3] at h
  subst e2
  exact goN_eq (by omega) (fun d hd => by simp [h.range hd]) (by simp [hs])
theorem setCell_three2 {w : World} {b : Nat} {x y z : Value} {t : TypeId} (h : w.heap[b]? = some (.cells #[x, y, z] t (0, 0))) (v : Value) : (w.setCell ⟨b, 2, none⟩ v).heap[b]? = some (.cells #[x, y, v] t (0, 0)) := by
  simp [World.setCell, Array.getElem?_modify, h]

set_option maxRecDepth 100000 in
set_option maxHeartbeats 20000000 in
theorem passed_any (T : Tab) (g : Nat) (key : Int) (w : World) (hv : validB T = true) (hR : RingAt w g T) (hg : g < w.heap.size) :
    Calls Tryz.prog 39 #[.agg (laneK g T T.zs.length), spotV key (homeN T key : Nat) 0, aheadF] w fun e w' => e = .returned (.int .i64 (passN T key : Nat)) ∧ Below w.heap.size w w' := by
  obtain ⟨⟨l1, l2⟩, _⟩ := valid_facts hv
  have hhl := homeN_lt hv key
  have hpN : Hid (passN T key = goN (fun d => !aheadB T (stepS T (homeN T key) d) key d) T.zs.length) := Lib.hid rfl
  have S0 := (((St.start w).alloc (laneK g T T.zs.length) 78).alloc #[.int .i64 key, .int .i64 (homeN T key : Nat), .int .i64 0] 75).alloc #[.func (.func 41) #[] #[]] 85
  simp only [World.size_alloc] at S0
  generalize homeN T key = hn at hhl S0 hpN ⊢
  generalize passN T key = pN at hpN ⊢
  have q0 := (lane_cells (S0.cells 2 rfl)).1
  obtain ⟨x0, x1, x2, x3, x4, x5, xz⟩ := facts3 (S0.cells 1 rfl)
  unfold spotV aheadF
  refine (callsIn_wide (n := 9)).1 ?_
  refine callsIn_of_wp_marks Tryz.func39 rfl trivial ?_ rfl
  simp only [Tryz.ntmps39, List.size_toArray, List.length_cons, List.length_nil, Nat.reduceAdd, Nat.reduceSub, Array.replicate_succ, Array.replicate_zero, List.push_toArray, List.append_toArray, List.nil_append, List.cons_append]
  gi_step
  gi_step
  refine wpIn_wide.2 ?_
  go_step
  refine wide_box rfl 78 (.tmp 0) rfl (laneK g T T.zs.length) rfl ?_
  go_wp2_with fail
  gi_wp2_with (refine ⟨trivial, ?_⟩; gi_at_call 64; refine (callsIn_wide.2 (ringAround_any _ _ _ _ _)).mono ?_; rintro e w' ⟨rfl, rfl⟩)
  clear q0 x0 x1 x2 x3 x4 x5 xz
  have S4 := (S0.alloc #[.slice (some ⟨g, 0, none⟩) T.zs.length T.zs.length] 70).alloc #[.int .i64 hn] 3
  have z4 := S4.sz 0 rfl
  have hR4 := hR.below S4.old hg
  simp only [World.size_alloc] at S4 z4
  generalize hW4 : ((((w.alloc (.cells (laneK g T T.zs.length) 78)).alloc (.cells #[.int .i64 key, .int .i64 hn, .int .i64 0] 75)).alloc (.cells #[.func (.func 41) #[] #[]] 85)).alloc (.cells #[.slice (some ⟨g, 0, none⟩) T.zs.length T.zs.length] 70)).alloc (.cells #[.int .i64 hn] 3) = W4 at S4 z4 hR4 ⊢
  have z5 : W4.heap.size = w.heap.size + 5 := by rw [← hW4]; simp
  clear hW4
  have hB1 := (facts1 (S4.cells 1 rfl)).1
  have hB2 := (facts1 (S4.cells 0 rfl)).1
  have S5 : St w W4 (passIt T g key hn w.heap.size ([] : List Nat).length) := S4.turn fun i hi => by
    simp only [List.mem_cons, List.not_mem_nil, or_false, List.length_nil] at hi ⊢
    rcases hi with rfl | rfl | rfl <;> simp
  have hItems : ∀ (s : List Nat), ∀ i ∈ passIt T g key hn w.heap.size s.length, i.hi ≤ W4.heap.size := fun s i hi => by
    simp only [List.mem_cons, List.not_mem_nil, or_false] at hi
    rcases hi with rfl | rfl | rfl <;> simp [It.box] <;> omega
  have hzB : w.heap.size + 3 ≤ W4.heap.size := by omega
  refine wpIn_rangeFunc_ownH (n := 9) rfl (by omega) (gf := 93) (lb := #[.pointer (some ⟨w.heap.size + 1 + 1 + 1, 0, none⟩), .pointer (some ⟨w.heap.size + 1 + 1 + 1 + 1, 0, none⟩)]) rfl trivial (enters_of Tryz.func93 (by kernel_rfl) rfl)
    (ringAroundS_stops 8 (by omega) (fun b => b = g ∨ b = w.heap.size + 1 + 1 + 1 ∨ b = w.heap.size + 1 + 1 + 1 + 1) (w.heap.size + 1 + 1 + 1) (w.heap.size + 1 + 1 + 1 + 1) g hn T l1 l2 hhl W4 hB1 hB2 hR4 (.inr (.inl rfl)) (.inr (.inr rfl)) (.inl rfl) (by omega) (by omega) (by omega)) KeepS.trans (fun W l o o' hl _ _ _ => keepS_put (by rintro (e | e | e) <;> omega)) (Below.refl _ _) (fun _ => rfl)
    (fun pre W => (St w W (passIt T g key hn w.heap.size pre.length) ∧ W4.heap.size ≤ W.heap.size) ∧ AllAhead T key hn pre)
    (PassOut T g key hn w W4.heap.size)
    (st_own hItems (by omega)) (fun c => PassOut.own hzB c)
    ⟨⟨S5, Nat.le_refl _⟩, fun i x hx => by simp at hx⟩
    (fun x a' W => a' = { tmps := #[.agg (laneK g T T.zs.length), .agg #[.int .i64 key, .int .i64 hn, .int .i64 0], .func (.func 41) #[] #[], .pointer (some ⟨w.heap.size, 0, none⟩), .pointer (some ⟨w.heap.size + 1, 0, none⟩), .pointer (some ⟨w.heap.size + 1 + 1, 0, none⟩), .int .i64 0, .int .i64 (stepS T hn x), .pointer (some ⟨w.heap.size, 0, none⟩), .slice (some ⟨g, 0, none⟩) T.zs.length T.zs.length, .pointer (some ⟨w.heap.size + 1, 0, none⟩), .pointer (some ⟨w.heap.size + 1, 1, none⟩), .int .i64 hn, .func (.func 93) #[] #[.pointer (some ⟨w.heap.size + 1 + 1 + 1, 0, none⟩), .pointer (some ⟨w.heap.size + 1 + 1 + 1 + 1, 0, none⟩)], .int .i64 (stepS T hn x), .agg #[.int .i64 (nth T.zs (stepS T hn x)), .int .i64 (homeT T (nth T.zs (stepS T hn x)))], undef, undef, undef, undef, undef, undef, undef, undef, undef, undef, undef, undef, undef, undef], defers := [] })
    (fun x a' _ _ _ _ h _ _ => h) ?assign ?body ?done ?stop
  case assign =>
    rintro l pre x W K hJ hK
    gi_wp2
    exact hK _ _ (KeepsFrom.refl _ _) (KeepS.refl _ W) hJ rfl
  case body =>
    rintro l pre x a' W hl hrec ⟨⟨Sp, hz⟩, hf⟩ rfl hlt
    have hkl := stepS_lt l1 hn x
    obtain ⟨v0, v1, v2, v3, v4, v5, vz⟩ := facts3 (Sp.cells 0 rfl)
    obtain ⟨r0, r1, rz⟩ := facts1 (Sp.cells 2 rfl)
    obtain ⟨_, LC, _⟩ := lane_cells (Sp.cells 1 rfl)
    have HAH : Hid (aheadB T (stepS T hn x) key pre.length = if awayOf T (stepS T hn x : Nat) = (pre.length : Int) then decide (nth T.zs (stepS T hn x) < key) else decide ((pre.length : Int) < awayOf T (stepS T hn x : Nat))) := Lib.hid (ahead_if T (stepS T hn x) key pre.length)
    have HSN := Lib.hid fun h => AllAhead.snoc (x := x) hf h
    obtain ⟨e0, e1, e2⟩ := lzk_at T T.zs.length (stepS T hn x) hkl
    have c0 := LC (stepS T hn x * 3) (by omega)
    have c1 := LC (stepS T hn x * 3 + 1) (by omega)
    have c2 := LC (stepS T hn x * 3 + 2) (by omega)
    rw [e0] at c0; rw [e1] at c1; rw [e2] at c2
    clear LC e0 e1 e2
    generalize hkk : stepS T hn x = kk at *
    have HKK := Lib.hid hkk
    clear hkk
    generalize nth T.zs kk = y at *
    generalize homeT T y = hy at *
    generalize awayOf T (kk : Int) = aw at *
    rw [show kk * 3 + 1 = 1 + kk * 3 from Nat.add_comm _ _] at c0
    rw [show kk * 3 + 1 + 1 = 1 + kk * 3 + 1 by omega] at c1
    rw [show kk * 3 + 2 + 1 = 1 + kk * 3 + 2 by omega] at c2
    have HST := Lib.hid fun (W' : World) => standsAhead_any y hy aw key hn pre.length W'
    have k0 : (0 : Int) ≤ (kk : Int) := by omega
    have k1 : (kk : Int) < 16 := by omega
    have hp16 : pre.length ≤ 16 := by omega
    have hmix : Tryz.prog.follows .mixedOrders = true := by kernel_rfl
    rw [← HAH.out] at HST
    generalize hah : aheadB T kk key pre.length = ah at *
    have HA2 := Lib.hid hah
    have HF := Lib.hid hf
    have HI := Lib.hid hItems
    have SP := Lib.hid Sp
    clear hah hf hItems HAH Sp v3 v4 v5 vz S4 S5 hR4 hB1 hB2 S0 hR hv hl hrec hlt
    gi_wp2_with fail
    refine wpIn_region_quietR (fun w' => Below W.heap.size W w') hmix (by kernel_rfl) (by kernel_rfl) ((Below.refl _ _).drew) ?_
    refine wpQuietIn_step (fun _ _ _ _ => trivial) (fun K hK => ?_)
    go_simp
    refine ⟨.func (.func 41) #[] #[], fun w' hb => ?_, hK _ ?_⟩
    · have q := (hb.cell (p := ⟨w.heap.size + 1 + 1, 0, none⟩) (by show w.heap.size + 1 + 1 < _; omega)).trans r0
      go_simp
    clear hK K
    refine wpQuietIn_step (fun _ _ _ _ => trivial) (fun K hK => ?_)
    go_simp
    refine ⟨_, fun w' hb => rfl, hK _ ?_⟩
    clear hK K
    refine wpQuietIn_step (fun _ _ _ _ => trivial) (fun K hK => ?_)
    go_simp
    refine ⟨_, fun w' hb => rfl, hK _ ?_⟩
    clear hK K
    refine wpQuietIn_step (fun _ _ _ _ => trivial) (fun K hK => ?_)
    go_simp
    refine ⟨_, fun w' hb => rfl, hK _ ?_⟩
    clear hK K
    refine wpQuietIn_step (fun _ _ _ _ => trivial) (fun K hK => ?_)
    go_simp
    refine ⟨spotV y hy aw, fun w' hb => ?_, hK _ ?_⟩
    · have q0 := (hb.cell (p := ⟨w.heap.size, 1 + kk * 3, none⟩) (by show w.heap.size < _; omega)).trans c0
      have q1 := (hb.cell (p := ⟨w.heap.size, 1 + kk * 3 + 1, none⟩) (by show w.heap.size < _; omega)).trans c1
      have q2 := (hb.cell (p := ⟨w.heap.size, 1 + kk * 3 + 2, none⟩) (by show w.heap.size < _; omega)).trans c2
      unfold spotV
      go_simp
    clear hK K
    refine wpQuietIn_step (fun _ _ _ _ => trivial) (fun K hK => ?_)
    go_simp
    refine ⟨spotV key hn pre.length, fun w' hb => ?_, hK _ ?_⟩
    · have q0 := (hb.cell (p := ⟨w.heap.size + 1, 0, none⟩) (by show w.heap.size + 1 < _; omega)).trans v0
      have q1 := (hb.cell (p := ⟨w.heap.size + 1, 1, none⟩) (by show w.heap.size + 1 < _; omega)).trans v1
      have q2 := (hb.cell (p := ⟨w.heap.size + 1, 2, none⟩) (by show w.heap.size + 1 < _; omega)).trans v2
      unfold spotV
      go_simp
    clear hK K
    refine wpQuietIn_step (fun _ _ _ _ => trivial) (fun K hK => ?_)
    go_simp
    refine ⟨.bool ah, fun w' hb => (CallsIn.inRound l (callsIn_wide.2 (HST.out w'))).mono ?_, hK _ ?_⟩
    · rintro e w6 ⟨rfl, hb6⟩
      exact ⟨rfl, hb.trans (hb6.mono hb.size)⟩
    clear hK K
    refine wpQuietIn_step (fun _ _ _ _ => trivial) (fun K hK => ?_)
    go_simp
    refine ⟨_, fun w' hb => rfl, hK _ ?_⟩
    clear hK K
    refine wpQuietIn_nil ?_
    rintro w6 hb6
    have S6 := SP.out.below hb6
    obtain ⟨v0, v1, v2, v3, v4, v5, vz⟩ := facts3 (S6.cells 0 rfl)
    have KF : Hid (KeepsFrom W4.heap.size W w6) := Lib.hid (keepsF_below hb6)
    have KS : Hid (KeepS (fun b => b = g ∨ b = w.heap.size + 1 + 1 + 1 ∨ b = w.heap.size + 1 + 1 + 1 + 1) W w6) := Lib.hid ((KeepS.refl _ W).below (m := W4.heap.size) (by rintro k (e | e | e) <;> omega) hz hb6)
    have hz6 : W4.heap.size ≤ w6.heap.size := Nat.le_trans hz hb6.size
    have E7 : Hid (St w (w6.setCell ⟨w.heap.size + 1, 2, none⟩ (.int .i64 (pre.length + 1))) (passIt T g key hn w.heap.size (pre ++ [x]).length)) := Lib.hid (by
      have e : ((pre ++ [x]).length : Int) = pre.length + 1 := by simp
      unfold passIt
      rw [e]
      exact S6.setBoxAt 0 rfl 2 (.int .i64 (pre.length + 1)) (setCell_three2 (S6.cells 0 rfl) _) (by simp [Far, It.box]) (by omega))
    have E8 : Hid (KeepsFrom W4.heap.size W (w6.setCell ⟨w.heap.size + 1, 2, none⟩ (.int .i64 (pre.length + 1)))) := Lib.hid (KF.out.trans ((KeepsOthers.setCell _ _ _).from _))
    have E9 : Hid (KeepS (fun b => b = g ∨ b = w.heap.size + 1 + 1 + 1 ∨ b = w.heap.size + 1 + 1 + 1 + 1) W (w6.setCell ⟨w.heap.size + 1, 2, none⟩ (.int .i64 (pre.length + 1)))) := Lib.hid (KS.out.set (by rintro (e | e | e) <;> simp only at e <;> omega) _)
    have Z5 := Lib.hid z5
    clear z5
    clear r0 c0 c1 c2 HST
    cases ah
    · gi_wp2_with fail
      exact ⟨KF.out, pre, x, rfl, rfl, HF.out, by rw [HKK.out]; exact HA2.out, S6, hz6⟩
    · gi_wp2_with fail
      exact ⟨E8.out, E9.out, ⟨E7.out, by simpa [World.setCell] using hz6⟩, HSN.out trivial⟩
  case done =>
    rintro D ys W hD rfl ⟨⟨Sp, hz⟩, hf⟩ hK
    obtain ⟨v0, v1, v2, v3, v4, v5, vz⟩ := facts3 (Sp.cells 0 rfl)
    have HP : Hid (pN = T.zs.length) := Lib.hid (by rw [hpN.out]; exact pass_all hf)
    have S10 := st_put (o := .deferred none) Sp (B := w.heap.size + 3) (D := D) (by simp [It.box]) (by omega) (by omega)
    clear hf
    gi_wp2_with fail
    refine ⟨by simp, .inl ⟨_, _, rfl, run_takeDeferred hK, ?_⟩⟩
    refine ⟨.int .i64 pN, ?_, rfl, S10.old⟩
    rw [HP.out]
    simp [results, Tryz.f39, go_sem]
  case stop =>
    rintro D c pre W hD ⟨k, hk, he⟩ ⟨pre', x, rfl, rfl, hf, hs, Sp, hz⟩ hK
    obtain ⟨v0, v1, v2, v3, v4, v5, vz⟩ := facts3 (Sp.cells 0 rfl)
    have HP : Hid (pN = pre'.length) := Lib.hid (by rw [hpN.out]; exact pass_stop hk he hf hs)
    have S10 := st_put (o := .deferred none) Sp (B := w.heap.size + 3) (D := D) (by simp [It.box]) (by omega) (by omega)
    clear hf hs he
    gi_wp2_with fail
    refine ⟨by simp, .inl ⟨_, _, rfl, run_takeDeferred hK, ?_⟩⟩
    refine ⟨.int .i64 pN, ?_, rfl, S10.old⟩
    rw [HP.out]
    simp [results, Tryz.f39, go_sem]

end Go.Proofs.YtkdkdmjhhgllgaaGreatDoor
end

section
namespace Go.Proofs.YtkdkdmjhhgllgaaGreatDoor
open Go.RowKit

section
variable {F : Fence} {n : Nat} {P : Program} {ops : Array Oper} {rest : List Oper} {o : Oper} {a : Act} {Q : Exit → Act → World → Prop} {w : World}
theorem wide_valueIn (hgd : o.guard = none) (hnd : ∀ c, o.op ≠ .defer c) (hab : o.about P w a.eval = none) (v : Value) (w' : World) (hr : (execOp a.eval o).run P w = .ok (.value v) w')
    (h : wpListIn F n P ops Q rest (a.put o.dst v) w') : wpListIn F n P ops Q (o :: rest) a w := by
  refine wpListIn_plain hgd fun K hK => ?_
  unfold Oper.wpIn
  refine ⟨fun f hf => (by rw [hab] at hf; cases hf), ?_⟩
  rw [Oper.semAt_eq _ _ _ hnd, hr]
  exact hK _ _ h
theorem wide_skipIn (hgd : o.guard = none) (hnd : ∀ c, o.op ≠ .defer c) (hab : o.about P w a.eval = none) (w' : World) (hr : (execOp a.eval o).run P w = .ok .skip w')
    (h : wpListIn F n P ops Q rest (a.put o.dst undef) w') : wpListIn F n P ops Q (o :: rest) a w := by
  refine wpListIn_plain hgd fun K hK => ?_
  unfold Oper.wpIn
  refine ⟨fun f hf => (by rw [hab] at hf; cases hf), ?_⟩
  rw [Oper.semAt_eq _ _ _ hnd, hr]
  exact hK _ _ h

theorem wide_allocIn (hgd : o.guard = none) (ty : TypeId) (ho : o.op = Op.alloc ty) (z : Array Value) (hz : ∀ w, (zeroValue ty).run P w = .ok (.agg z) w)
    (h : wpListIn F n P ops Q rest (a.put o.dst (.pointer (some ⟨w.heap.size, 0, none⟩))) (w.alloc (.cells z ty))) : wpListIn F n P ops Q (o :: rest) a w := by
  refine wide_valueIn hgd (fun c e => by rw [ho] at e; cases e) (by simp [Oper.about, ho]) _ _ ?_ h
  simp [execOp, ho, Instr.alloc, hz, Result.andThen, newVar, newRow, Value.cells, go_sem]
theorem wide_storeIn (hgd : o.guard = none) (p v : Operand) (ty : TypeId) (ho : o.op = Op.store ty p v) (b : Nat) (t : TypeId) (old cells : Array Value)
    (hp : a.eval p = .pointer (some ⟨b, 0, none⟩)) (hv : a.eval v = .agg cells) (hg : w.heap[b]? = some (.cells old t (0, 0))) (hi : (P.info? ty).map (·.size) = some cells.size)
    (hs : old.size = cells.size) (h1 : cells.all (·.oneCell') = true) (h : wpListIn F n P ops Q rest (a.put o.dst undef) (w.setRow b cells)) : wpListIn F n P ops Q (o :: rest) a w := by
  refine wide_skipIn hgd (fun c e => by rw [ho] at e; cases e) (by simp [Oper.about, ho]) _ ?_ h
  simp [execOp, ho, hp, hv, Instr.storeAt, Instr.sureAddr, run_storeVar_row (P := P) w b t ty old cells hg hi hs h1, Result.andThen]
theorem wide_loadIn (hgd : o.guard = none) (p : Operand) (ty : TypeId) (ho : o.op = Op.load ty p) (b : Nat) (t : TypeId) (cells : Array Value) (fr : Nat × Nat) (d : TypeDesc)
    (hp : a.eval p = .pointer (some ⟨b, 0, none⟩)) (hg : w.heap[b]? = some (.cells cells t fr)) (hu : P.underlying ty = some d) (hd : (match d with | .struct _ | .array _ _ => true | _ => false) = true)
    (hi : (P.info? ty).map (·.size) = some cells.size) (h : wpListIn F n P ops Q rest (a.put o.dst (.agg cells)) w) : wpListIn F n P ops Q (o :: rest) a w := by
  refine wide_valueIn hgd (fun c e => by rw [ho] at e; cases e) (by simp [Oper.about, ho]) _ _ ?_ h
  simp [execOp, ho, hp, Instr.loadAt, Instr.sureAddr, run_loadVar_row (P := P) w b t ty cells fr d hg hu hd hi, Result.andThen]
/-- The run of such a load. -/
theorem wide_load_run (p : Operand) (ty : TypeId) (ho : o.op = Op.load ty p) (b : Nat) (t : TypeId) (cells : Array Value) (fr : Nat × Nat) (d : TypeDesc)
    (hp : a.eval p = .pointer (some ⟨b, 0, none⟩)) (hg : w.heap[b]? = some (.cells cells t fr)) (hu : P.underlying ty = some d) (hd : (match d with | .struct _ | .array _ _ => true | _ => false) = true)
    (hi : (P.info? ty).map (·.size) = some cells.size) : (execOp a.eval o).run P w = .ok (.value (.agg cells)) w := by
  simp [execOp, ho, hp, Instr.loadAt, Instr.sureAddr, run_loadVar_row (P := P) w b t ty cells fr d hg hu hd hi, Result.andThen]
end

end Go.Proofs.YtkdkdmjhhgllgaaGreatDoor
end

section
namespace Go.Proofs.YtkdkdmjhhgllgaaGreatDoor
open Go.RowKit

theorem keysL_mem {zs : List Int} {k : Nat} {x : Int} (hk : k < zs.length) (hx : nth zs k = x) (hb : inB x 0 99 = true) : x ∈ keysL zs := by
  unfold keysL
  rw [List.mem_filter]
  exact ⟨by rw [← hx]; exact nth_mem hk, hb⟩
/-- What the program asks of a key. -/
def goodK (T : Tab) (x : Int) : Bool := decide ((passN T x : Int) = awayOf T (findI T x))
theorem key_slot {T : Tab} {x : Int} (hs : soundB T = true) (hx : x ∈ keysL T.zs) : ∃ k : Nat, k < T.zs.length ∧ findOf T x = k ∧ findI T x = k ∧ nth T.zs k = x ∧ 0 ≤ x ∧ x ≤ 99 := by
  obtain ⟨hm, hb⟩ := List.mem_filter.1 hx
  obtain ⟨h0, h9⟩ := inB_iff.1 hb
  obtain ⟨i, hi, e⟩ := mem_nth hm
  have hf := sound_find hs hi (by rw [e]; exact h0)
  rw [e] at hf
  refine ⟨i, hi, ?_, hf, e, h0, h9⟩
  unfold findOf
  rw [if_pos (by rw [(sound_all.1 hs).1, hb]; rfl), hf]
theorem good_iff {T : Tab} {k : Nat} (hs : soundB T = true) (hk : k < T.zs.length) (h0 : 0 ≤ nth T.zs k) : goodK T (nth T.zs k) = slotB T k := by
  have hv := (sound_all.1 hs).1
  have hf := sound_find hs hk h0
  have hp := pass_self hv hk h0
  have ha := (away_self hv hk h0).1
  unfold goodK
  rw [hf, ha]
  cases hb : slotB T k
  · rw [hb] at hp
    exact decide_eq_false fun e => by
      have := hp.1 (by omega)
      cases this
  · rw [hb] at hp
    exact decide_eq_true (by have := hp.2 rfl; omega)
theorem fair_keys {T : Tab} (hs : soundB T = true) : fairTo T T.zs.length = (keysL T.zs).all (goodK T) := by
  rw [Bool.eq_iff_iff, fairTo_iff, List.all_eq_true]
  constructor
  · intro h x hx
    obtain ⟨k, hk, _, _, e, h0, _⟩ := key_slot hs hx
    rw [← e, good_iff hs hk (by omega)]
    exact h k hk
  · intro h i hi
    by_cases hn : nth T.zs i < 0
    · simp [slotB, hn]
    · have hv := valid_slot (sound_all.1 hs).1 hi
      rw [← good_iff hs hi (by omega)]
      exact h _ (keysL_mem hi rfl (inB_true ⟨by omega, by omega⟩))

set_option maxRecDepth 100000 in
set_option maxHeartbeats 2000000 in
theorem ringKeysM_in (n : Nat) (hn : 1 ≤ n) (l Bn g : Nat) (T : Tab) (hlen : T.zs.length ≤ 100) (J Jx : List Int → World → Prop)
    (W : World) (hJ : AbidesFrom W.heap.size J)
    (hY : ∀ pre x W1, x ∈ keysL T.zs → J pre W1 → pre.length < T.zs.length → YieldAt Fence.wide (n - 1) Tryz.prog l #[.int .i64 x] W1 fun e W' =>
      (e = .returned (.bool true) ∧ J (pre ++ [x]) W' ∧ KeepBlock g W1 W') ∨ (e = .returned (.bool false) ∧ Jx (pre ++ [x]) W'))
    (hBn : W.cell? ⟨Bn, 0, none⟩ = some (.slice (some ⟨g, 0, none⟩) T.zs.length T.zs.length)) (hR : RingAt W g T) (hg : g < W.heap.size) (h0 : J [] W) :
    CallsIn Fence.wide n Tryz.prog 74 #[.func (.yield l) #[] #[], .pointer (some ⟨Bn, 0, none⟩)] W fun e W' => (∃ v, e = .returned v) ∧
      ((∃ ys, ys = keysL T.zs ∧ J ys W') ∨ (∃ pre, True ∧ Jx pre W')) := by
  refine callsIn_of_wp Tryz.func74 rfl trivial ?_ rfl
  simp only [Tryz.ntmps74, List.size_toArray, List.length_cons, List.length_nil, Nat.reduceAdd, Nat.reduceSub, Array.replicate_succ, Array.replicate_zero, List.push_toArray, List.append_toArray, List.nil_append, List.cons_append]
  gi_wp2
  gi_loopw [7] (fun i wr => ∃ k : Nat, k ≤ T.zs.length ∧ i = .int .i64 k ∧ J (keysL (T.zs.take k)) wr ∧ KeepBlock g W wr)
    (fun i _ => T.zs.length - (intOf i).toNat)
  case atStart => exact ⟨0, Nat.zero_le _, rfl, h0, KeepBlock.refl _ _⟩
  case round =>
    obtain ⟨k, hk, rfl, hJs, hnx⟩ := hrel
    by_cases hlt : k < T.zs.length
    · obtain ⟨c0, c1⟩ := hnx.ring hR k hlt
      obtain ⟨x, hX⟩ : ∃ x, nth T.zs k = x := ⟨_, rfl⟩
      rw [hX] at c0 c1
      have X := Lib.hid hX
      clear hX
      have JA := Lib.hid (hJ _ _ _ none hJs (World.grownBy_alloc wr (.cells #[.int .i64 x, .int .i64 (homeT T x)] 73) none) (fun r e => by cases e))
      have BA := Lib.hid (hnx.alloc hg (.cells #[.int .i64 x, .int .i64 (homeT T x)] 73))
      cases hb : inB x 0 99
      · have hb' := hb
        have HB := Lib.hid hb
        clear hb hb'
        gi_wp2_with (refine ⟨trivial, ?_⟩; gi_at_call 66; refine (callsIn_wide.2 (heldIsKey_any _ _)).mono ?_; rintro e w' ⟨rfl, rfl⟩; rw [HB.out])
        refine ⟨fun _ h => (by cases h), ?_⟩
        gi_wp2
        go_roundw
        case rel => exact ⟨k + 1, by omega, by go_num, by rw [keysL_no hlt X.out HB.out]; exact JA.out, BA.out⟩
        case measure => simp [intOf]; omega
      · obtain ⟨fn, tmps, assign, body, hy, hRd⟩ := hY _ x _ (keysL_mem hlt X.out hb) JA.out (Nat.lt_of_le_of_lt (keysL_len _ _) hlt)
        have HB := Lib.hid hb
        clear hb
        gi_wp2_with (refine ⟨trivial, ?_⟩; gi_at_call 66; refine (callsIn_wide.2 (heldIsKey_any _ _)).mono ?_; rintro e w' ⟨rfl, rfl⟩; rw [HB.out])
        refine hRd.mono ?_
        rintro e W3 (⟨rfl, hJ3, hk3⟩ | ⟨rfl, hJx3⟩)
        · have B3 := Lib.hid (BA.out.trans hk3)
          gi_wp2
          go_roundw
          case rel => exact ⟨k + 1, by omega, by go_num, by rw [keysL_yes hlt X.out HB.out]; exact hJ3, B3.out⟩
          case measure => simp [intOf]; omega
        · gi_wp2
          refine bodyPost_ret (results_none rfl _ _ _) rfl ?_
          exact ⟨⟨_, rfl⟩, .inr ⟨_, trivial, hJx3⟩⟩
    · obtain rfl : k = T.zs.length := by omega
      gi_wp2
      go_end0
      exact ⟨⟨_, rfl⟩, .inl ⟨_, rfl, by rw [List.take_length] at hJs; exact hJs⟩⟩


/-- Keys of a table as data. -/
abbrev KeyM (T : Tab) := {x : Int // x ∈ keysL T.zs}

theorem ringKeysM_stops (n : Nat) (hn : 1 ≤ n) (Bn g : Nat) (T : Tab) (hlen : T.zs.length ≤ 100) (w : World) (hg : g < w.heap.size) (hb : Bn < w.heap.size)
    (hBn : w.cell? ⟨Bn, 0, none⟩ = some (.slice (some ⟨g, 0, none⟩) T.zs.length T.zs.length)) (hR : RingAt w g T) :
    SeqStopsK Fence.wide n Tryz.prog 74 #[.pointer (some ⟨Bn, 0, none⟩)] (fun x : KeyM T => #[Value.int .i64 x.1]) (KeepBlock g) (fun ys => ys.map Subtype.val = keysL T.zs) (fun _ => True) T.zs.length w := fun l J Jx W hW hJ _ hY h0 => by
  refine (ringKeysM_in n hn l Bn g T hlen (fun pre W => ∃ p : List (KeyM T), p.map Subtype.val = pre ∧ J p W) (fun pre W => ∃ p : List (KeyM T), p.map Subtype.val = pre ∧ Jx p W) W (fun s W W' row h hg hr => by
    obtain ⟨p, e, hj⟩ := h
    exact ⟨p, e, hJ _ _ _ row hj hg hr⟩) ?_ ((hW.cell (p := ⟨Bn, 0, none⟩) hb).trans hBn) (hR.below hW hg) (Nat.lt_of_lt_of_le hg hW.size) ⟨[], rfl, h0⟩).mono ?_
  · rintro pre x W1 hx ⟨p, rfl, hj⟩ hl
    obtain ⟨fn, tmps, assign, body, hy, hRd⟩ := hY p ⟨x, hx⟩ W1 hj (by simpa using hl)
    refine ⟨fn, tmps, assign, body, hy, hRd.mono ?_⟩
    rintro e W' (⟨rfl, h1, h2⟩ | ⟨rfl, h1⟩)
    · exact .inl ⟨rfl, ⟨p ++ [⟨x, hx⟩], by simp, h1⟩, h2⟩
    · exact .inr ⟨rfl, p ++ [⟨x, hx⟩], by simp, h1⟩
  · rintro e W' ⟨he, (⟨ys, hys, p, rfl, hj⟩ | ⟨pre, _, p, rfl, hj⟩)⟩
    · exact ⟨he, .inl ⟨p, hys, hj⟩⟩
    · exact ⟨he, .inr ⟨p, trivial, hj⟩⟩

end Go.Proofs.YtkdkdmjhhgllgaaGreatDoor
end

section
namespace Go.Proofs.YtkdkdmjhhgllgaaGreatDoor
open Go.RowKit Go.Shelf
attribute [local go_sem] Oper.semAt_some

def FairOut (T : Tab) (w : World) (B : Nat) (c : Code) (W : World) : Prop :=
  c = .ret ∧ fairB T = false ∧ St w W [It.box (w.heap.size + 1) #[.bool false] 4] ∧ B ≤ W.heap.size
theorem FairOut.own {α : Type} {T : Tab} {w : World} {B : Nat} (hB : w.heap.size + 2 ≤ B) (c : Code) : OwnFrom B (fun (_ : α) W => FairOut T w B c W) := by
  rintro s A B' row ⟨h1, h2, h5, h6⟩ hg hr
  exact ⟨h1, h2, h5.grown2 hg (fun k e => ⟨by have := (hr k e).1; omega, fun i hi => .inr (by
      have := (hr k e).1
      simp only [List.mem_cons, List.not_mem_nil, or_false] at hi
      rcases hi with rfl <;> simp [It.box] <;> omega)⟩), Nat.le_trans h6 hg.size⟩

theorem all_false {l : List Int} {p : Int → Bool} {x : Int} (hx : x ∈ l) (h : p x = false) : l.all p = false := by
  cases ha : l.all p
  · rfl
  · have := List.all_eq_true.1 ha x hx
    rw [h] at this; cases this

set_option maxRecDepth 100000 in
set_option maxHeartbeats 4000000 in
theorem IsFair_any (T : Tab) (a : Option Addr) (c : Nat) (w : World) (hx : T.zs.length ≤ 9223372036854775807) (h1 : IntsAt w a T.zs) (hL : Laid w) :
    Calls Tryz.prog 11 #[tabV T a c] w fun e w' => e = .returned (.bool (fairB T)) ∧ Below w.heap.size w w' := by
  have S0 := (((St.start w).read h1).alloc #[.int .i64 T.t, .int .i64 T.p, .slice a T.zs.length c] 25).alloc #[.bool false] 4
  rw [World.size_alloc] at S0
  have HF : Hid (fairB T = (plainB T && decide (-1 ∈ T.zs) && fairTo T T.zs.length)) := Lib.hid rfl
  cases hp : plainB T
  · go_enter Tryz.func11, Tryz.ntmps11
    go_wp2_with fail
    refine (isPlain_any T a c _ hx (by exact S0.reads 2 rfl)).mono ?_
    rw [hp]
    rintro e w1 ⟨rfl, hb⟩
    have S1 := S0.below hb
    clear S0 hb
    obtain ⟨x0, x1, xz⟩ := facts1 (S1.cells 0 rfl)
    go_wp2
    have S2 := S1.setBoxAt 0 rfl 0 (.bool false) (setCell_one0 (S1.cells 0 rfl) _) (by simp [Far, It.box, It.read]) (by omega)
    refine bodyPost_ret (v := .bool false) (by simp [results, Tryz.results11, go_sem, x0, x1]) rfl ⟨by rw [HF.out, hp]; rfl, S2.old⟩
  · cases hd : decide (-1 ∈ T.zs)
    · go_enter Tryz.func11, Tryz.ntmps11
      go_wp2_with fail
      refine (isPlain_any T a c _ hx (by exact S0.reads 2 rfl)).mono ?_
      rw [hp]
      rintro e w1 ⟨rfl, hb⟩
      have S1 := S0.below hb
      clear S0 hb
      obtain ⟨y0, y1, y2, y3, y4, y5, yz⟩ := facts3 (S1.cells 1 rfl)
      go_wp2_with fail
      refine (contains_any T.zs a c (-1) _ hx (by exact S1.reads 2 rfl)).mono ?_
      rintro e w2 ⟨rfl, rfl⟩
      rw [hd]
      obtain ⟨x0, x1, xz⟩ := facts1 (S1.cells 0 rfl)
      have S2 := S1.setBoxAt 0 rfl 0 (.bool false) (setCell_one0 (S1.cells 0 rfl) _) (by simp [Far, It.box, It.read]) (by omega)
      go_wp2
      refine bodyPost_ret (v := .bool false) (by simp [results, Tryz.results11, go_sem, x0, x1]) rfl ⟨by rw [HF.out, hp, hd]; rfl, S2.old⟩
    · obtain ⟨hs, hv, ht⟩ := plain_parts hp
      obtain ⟨⟨l1, l2⟩, _⟩ := valid_facts hv
      have HK : Hid (fairB T = (keysL T.zs).all (goodK T)) := Lib.hid (by rw [HF.out, hp, hd, fair_keys hs]; rfl)
      have HS := Lib.hid hs
      have HV := Lib.hid hv
      have HP := Lib.hid hp
      have HD := Lib.hid hd
      clear ht HF hs hv hp hd
      refine (callsIn_wide (n := 9)).1 ?_
      refine callsIn_of_wp_marks Tryz.func11 rfl trivial ?_ rfl
      simp only [Tryz.ntmps11, List.size_toArray, List.length_cons, List.length_nil, Nat.reduceAdd, Nat.reduceSub, Array.replicate_succ, Array.replicate_zero, List.push_toArray, List.append_toArray, List.nil_append, List.cons_append]
      gi_wp2_with fail
      refine ⟨trivial, (callsIn_wide.2 (isPlain_any T a c _ hx (by exact S0.reads 2 rfl))).mono ?_⟩
      rw [HP.out]
      rintro e w1 ⟨rfl, hb⟩
      have z1 : w.heap.size + 2 ≤ w1.heap.size := by have := hb.size; simpa using this
      have S1 := S0.below hb
      clear S0 hb
      obtain ⟨y0, y1, y2, y3, y4, y5, yz⟩ := facts3 (S1.cells 1 rfl)
      gi_wp2_with fail
      refine ⟨trivial, (callsIn_wide.2 (contains_any T.zs a c (-1) _ hx (by exact S1.reads 2 rfl))).mono ?_⟩
      rintro e w2 ⟨rfl, rfl⟩
      rw [HD.out]
      gi_wp2_with fail
      refine ⟨trivial, (callsIn_wide.2 (laneOf_any T a c _ (by exact S1.reads 2 rfl) HV.out)).mono ?_⟩
      rintro e w3 ⟨g, rfl, hR, hg, hgo, hb⟩
      have S3 := (((S1.below hb).alloc laneZ 78).setRowAt (c' := laneK g T T.zs.length) (by simp [Far, It.box, It.read]; omega) (by have := S1.size; have := hb.size; omega))
      rw [World.setRow_alloc_new] at S3
      clear S1 hb y0 y1 y2 y3 y4 y5 yz
      dsimp only
      apply_assumption
      refine wide_allocIn rfl 78 rfl laneZ laneZero ?_
      refine wide_storeIn rfl (.tmp 3) (.tmp 17) 78 rfl w3.heap.size 78 laneZ (laneK g T T.zs.length) rfl rfl (heap_alloc_last _ _) (by rw [laneSize, laneK_size]) (by rw [laneZ_size, laneK_size]) (laneK_one g T T.zs.length) ?_
      rw [World.setRow_alloc_new]
      have q0 := (lane_cells (S3.cells 0 rfl)).1
      gi_wp2_with fail
      refine ⟨trivial, (callsIn_wide.2 (ringKeys_any _ _ _ _)).mono ?_⟩
      rintro e w4 ⟨rfl, rfl⟩
      gi_wp2_with fail
      have S4 := S3.alloc #[.slice (some ⟨g, 0, none⟩) T.zs.length T.zs.length] 70
      have z3 : w.heap.size + 2 ≤ w3.heap.size := by have := S3.sz 1 rfl; have := S3.sz 0 rfl; simp at *; omega
      have hR4 : RingAt ((w3.alloc (.cells (laneK g T T.zs.length) 78)).alloc (.cells #[.slice (some ⟨g, 0, none⟩) T.zs.length T.zs.length] 70)) g T := (hR.below (((Below.refl _ w3).alloc (Nat.le_refl _) _).alloc (by simp) _) hg)
      have hL4 : Laid ((w3.alloc (.cells (laneK g T T.zs.length) 78)).alloc (.cells #[.slice (some ⟨g, 0, none⟩) T.zs.length T.zs.length] 70)) := hL.below S4.old hL.pos
      simp only [World.size_alloc] at S4
      generalize hW4 : (w3.alloc (.cells (laneK g T T.zs.length) 78)).alloc (.cells #[.slice (some ⟨g, 0, none⟩) T.zs.length T.zs.length] 70) = W4 at S4 hR4 hL4 ⊢
      have z4 : W4.heap.size = w3.heap.size + 2 := by rw [← hW4]; simp
      clear hW4 hR S3 q0
      have hB1 := (facts1 (S4.cells 0 rfl)).1
      refine wpIn_rangeFunc_ownG (n := 9) rfl (by omega) (gf := 74) (lb := #[.pointer (some ⟨w3.heap.size + 1, 0, none⟩)]) rfl trivial (enters_of Tryz.func74 (by kernel_rfl) rfl)
        (ringKeysM_stops 8 (by omega) (w3.heap.size + 1) g T (by omega) W4 (by omega) (by omega) hB1 hR4) KeepBlock.trans (fun W l o o' hl h _ _ => ⟨by simp, keep_put (by omega)⟩) (Below.refl _ _) (fun _ => rfl)
        (fun pre W => Below W4.heap.size W4 W ∧ ∀ x ∈ pre, goodK T x.1 = true)
        (fun c pre W => FairOut T w W4.heap.size c W)
        (OwnFrom.and (ownFrom_below (Nat.le_refl _) (Nat.le_refl _)) (fun _ _ _ _ h _ _ => h))
        (fun c => FairOut.own (by omega) c)
        ⟨Below.refl _ _, fun x hx => by cases hx⟩
        (fun x => { tmps := #[tabV T a c, .pointer (some ⟨w.heap.size, 0, none⟩), .pointer (some ⟨w.heap.size + 1, 0, none⟩), .pointer (some ⟨w3.heap.size, 0, none⟩), .int .i64 x.1, undef, undef, .agg #[.int .i64 T.t, .int .i64 T.p, .slice a T.zs.length c], .bool true, .bool false, .bool false, .pointer (some ⟨w.heap.size, 2, none⟩), .slice a T.zs.length c, .bool true, .bool false, .bool false, .agg #[.int .i64 T.t, .int .i64 T.p, .slice a T.zs.length c], .agg (laneK g T T.zs.length), .pointer (some ⟨w3.heap.size, 0, none⟩), .slice (some ⟨g, 0, none⟩) T.zs.length T.zs.length, .func (.func 74) #[] #[.pointer (some ⟨w3.heap.size + 1, 0, none⟩)], .int .i64 x.1, undef, undef, undef, undef, undef, undef, undef, undef, undef, undef, undef, undef, undef, undef, undef, undef, undef], defers := [] }) ?assign ?body ?done ?stop
      case assign =>
        intro l x W K hK
        gi_wp2
        exact hK
      case body =>
        rintro l pre x W ⟨hB, hgd⟩ hlt
        obtain ⟨k, hk, hf1, hf2, hxk, x0, x9⟩ := key_slot HS.out x.2
        have SW := S4.below hB
        have LW := hL4.below hB (by have := hL.pos; omega)
        have RW := hR4.below hB (by omega)
        have zW := hB.size
        obtain ⟨y0, y1, y2, y3, y4, y5, yz⟩ := facts3 (SW.cells 3 rfl)
        have HX := Lib.hid x.2
        have HG : Hid (goodK T x.1 = decide ((passN T x.1 : Int) = awayOf T k)) := Lib.hid (by unfold goodK; rw [hf2])
        generalize hxx : x.1 = xv at *
        gi_wp2_with fail
        refine ⟨trivial, (CallsIn.inRound l (callsIn_wide.2 (FindKey_any T a c xv _ hx (by exact SW.reads 4 rfl) LW))).mono ?_⟩
        rw [hf1]
        rintro e w5 ⟨rfl, hb5⟩
        gi_wp2_with fail
        have S5 := SW.below hb5
        have R5 := RW.below hb5 (by omega)
        have z5 := hb5.size
        have hLN := S5.cells 1 rfl
        obtain ⟨_, LC, _⟩ := lane_cells hLN
        obtain ⟨_, _, e2⟩ := lzk_at T T.zs.length k hk
        have c2 := LC (k * 3 + 2) (by omega)
        rw [e2] at c2
        obtain ⟨y0, y1, y2, y3, y4, y5, yz⟩ := facts3 (S5.cells 3 rfl)
        have hmix : Tryz.prog.follows .mixedOrders = true := by kernel_rfl
        have k0 : (0 : Int) ≤ (k : Int) := by omega
        have k1 : (k : Int) < 16 := by omega
        rw [show k * 3 + 2 + 1 = 1 + k * 3 + 2 by omega] at c2
        have HST := Lib.hid fun (W' : World) (h : Below w5.heap.size w5 W') => startOf_any T a c xv W' HV.out x0 x9 (by exact (S5.below h).reads 4 rfl)
        have HPA := Lib.hid fun (W' : World) (h : Below w5.heap.size w5 W') => passed_any T g xv W' HV.out (R5.below h (by omega)) (Nat.lt_of_lt_of_le (by omega : g < w5.heap.size) h.size)
        clear LC e2
        generalize awayOf T (k : Int) = aw at *
        generalize passN T xv = pv at *
        generalize homeN T xv = hv at *
        refine wpIn_region_quietR (fun w' => Below w5.heap.size w5 w') hmix (by kernel_rfl) (by kernel_rfl) ((Below.refl _ _).drew) ?_
        refine wpQuietIn_step (fun _ _ _ _ => trivial) (fun K hK => ?_)
        rw [if_pos (by rfl)]
        refine ⟨.agg (laneK g T T.zs.length), quiet_load fun w' hb => wide_load_run (.tmp 3) 78 rfl w3.heap.size 78 _ (0, 0) _ rfl ((hb.block _ (by omega)).trans hLN) Tryz.underlying78 rfl (by rw [laneSize, laneK_size]), hK _ ?_⟩
        clear hK K
        refine wpQuietIn_step (fun _ _ _ _ => trivial) (fun K hK => ?_)
        go_simp
        refine ⟨tabV T a c, fun w' hb => ?_, hK _ ?_⟩
        · have q0 := (hb.cell (p := ⟨w.heap.size, 0, none⟩) (by show w.heap.size < _; omega)).trans y0
          have q1 := (hb.cell (p := ⟨w.heap.size, 1, none⟩) (by show w.heap.size < _; omega)).trans y1
          have q2 := (hb.cell (p := ⟨w.heap.size, 2, none⟩) (by show w.heap.size < _; omega)).trans y2
          unfold tabV
          go_simp
        clear hK K
        refine wpQuietIn_step (fun _ _ _ _ => trivial) (fun K hK => ?_)
        go_simp
        refine ⟨_, fun w' hb => rfl, hK _ ?_⟩
        clear hK K
        refine wpQuietIn_step (fun _ _ _ _ => trivial) (fun K hK => ?_)
        go_simp
        refine ⟨spotV xv hv 0, fun w' hb => (CallsIn.inRound l (callsIn_wide.2 (HST.out w' hb))).mono ?_, hK _ ?_⟩
        · rintro e w6 ⟨rfl, hb6⟩
          exact ⟨rfl, hb.trans (hb6.mono hb.size)⟩
        clear hK K
        refine wpQuietIn_step (fun _ _ _ _ => trivial) (fun K hK => ?_)
        go_simp
        refine ⟨.int .i64 pv, fun w' hb => (CallsIn.inRound l (callsIn_wide.2 (HPA.out w' hb))).mono ?_, hK _ ?_⟩
        · rintro e w6 ⟨rfl, hb6⟩
          exact ⟨rfl, hb.trans (hb6.mono hb.size)⟩
        clear hK K
        refine wpQuietIn_step (fun _ _ _ _ => trivial) (fun K hK => ?_)
        go_simp
        refine ⟨_, fun w' hb => rfl, hK _ ?_⟩
        clear hK K
        refine wpQuietIn_step (fun _ _ _ _ => trivial) (fun K hK => ?_)
        go_simp
        refine ⟨_, fun w' hb => rfl, hK _ ?_⟩
        clear hK K
        refine wpQuietIn_step (fun _ _ _ _ => trivial) (fun K hK => ?_)
        go_simp
        refine ⟨_, fun w' hb => rfl, hK _ ?_⟩
        clear hK K
        refine wpQuietIn_step (fun _ _ _ _ => trivial) (fun K hK => ?_)
        go_simp
        refine ⟨_, fun w' hb => rfl, hK _ ?_⟩
        clear hK K
        refine wpQuietIn_step (fun _ _ _ _ => trivial) (fun K hK => ?_)
        go_simp
        refine ⟨.int .i64 aw, fun w' hb => ?_, hK _ ?_⟩
        · have q0 := (hb.cell (p := ⟨w3.heap.size, 1 + k * 3 + 2, none⟩) (by show w3.heap.size < _; omega)).trans c2
          go_simp
        clear hK K
        refine wpQuietIn_step (fun _ _ _ _ => trivial) (fun K hK => ?_)
        go_simp
        refine ⟨_, fun w' hb => rfl, hK _ ?_⟩
        clear hK K
        refine wpQuietIn_nil ?_
        rintro w6 hb6
        have B6 : Below W4.heap.size W4 w6 := (hB.trans (hb5.mono hB.size)).trans (hb6.mono (by omega))
        have KF : KeepsFrom W4.heap.size W w6 := keepsF_below (hb5.trans (hb6.mono z5))
        have KG : KeepBlock g W w6 := KeepBlock.of_below (hb5.trans (hb6.mono z5)) (by omega)
        have z6 := hb6.size
        clear HST HPA y0 y1 y2 y3 y4 y5 yz c2 SW LW RW R5 hLN
        cases hq : ((pv : Int) != aw)
        · have hg1 : goodK T xv = true := by rw [HG.out]; simpa using hq
          gi_wp2_with fail
          exact ⟨KF, KG, B6, fun y hy => by
            rcases List.mem_append.1 hy with hy | hy
            · exact hgd y hy
            · rw [List.mem_singleton.1 hy, hxx]; exact hg1⟩
        · have hg1 : goodK T xv = false := by rw [HG.out]; simpa using hq
          have S6 := S5.below hb6
          have S7 := S6.setBoxAt 2 rfl 0 (.bool false) (setCell_one0 (S6.cells 2 rfl) _) (by simp [Far, It.box, It.read]; omega) (by omega)
          have O7 : Hid (FairOut T w W4.heap.size .ret (w6.setCell ⟨w.heap.size + 1, 0, none⟩ (.bool false))) := Lib.hid ⟨rfl, by
            rw [HK.out]
            exact all_false HX.out hg1, S7.turn (fun i hi => by
            simp only [List.mem_cons, List.not_mem_nil, or_false] at hi
            subst hi; simp), by have := B6.size; simpa [World.setCell] using this⟩
          have K7 : Hid (KeepsFrom W4.heap.size W (w6.setCell ⟨w.heap.size + 1, 0, none⟩ (.bool false))) := Lib.hid (KF.trans ((KeepsOthers.setCell _ _ _).from _))
          obtain ⟨r0, r1, rz⟩ := facts1 (S6.cells 2 rfl)
          gi_wp2_with fail
          exact ⟨K7.out, O7.out⟩
      case done =>
        rintro D ys W hD hys ⟨hB, hgd⟩ hK
        have hfa : fairB T = true := by
          rw [HK.out, ← hys, List.all_eq_true]
          intro x hx
          obtain ⟨y, hy, rfl⟩ := List.mem_map.1 hx
          exact hgd y hy
        have HFA := Lib.hid hfa
        have SW := S4.below hB
        have S7 := SW.setBoxAt 2 rfl 0 (.bool true) (setCell_one0 (SW.cells 2 rfl) _) (by simp [Far, It.box, It.read]; omega) (by omega)
        have hK' : (W.setCell ⟨w.heap.size + 1, 0, none⟩ (.bool true)).heap[D]? = some (.deferred (some [])) := (KeepsOthers.setCell _ _ _).same D _ hK rfl
        have S8 : St w (W.setCell ⟨w.heap.size + 1, 0, none⟩ (.bool true)) [It.box (w.heap.size + 1) #[.bool true] 4] := S7.turn (fun i hi => by
            simp only [List.mem_cons, List.not_mem_nil, or_false] at hi
            subst hi; simp)
        have S10 := st_put (o := .deferred none) S8 (B := w.heap.size + 2) (D := D) (by simp [It.box]) (by omega) (by omega)
        obtain ⟨r0, r1, rz⟩ := facts1 (SW.cells 2 rfl)
        clear hfa hgd
        gi_wp2_with fail
        refine ⟨by simp, .inl ⟨_, _, rfl, run_takeDeferred hK', ?_⟩⟩
        obtain ⟨a0, _, _⟩ := facts1 (S10.cells 0 rfl)
        exact ⟨.bool true, by simp [results, Tryz.f11, Tryz.results11, go_sem, a0], by rw [HFA.out], S10.old⟩
      case stop =>
        rintro D c' pre W hD _ ⟨rfl, hfa, Sx, hz⟩ hK
        have HFA := Lib.hid hfa
        have S10 := st_put (o := .deferred none) Sx (B := w.heap.size + 2) (D := D) (by simp [It.box]) (by omega) (by omega)
        clear hfa
        gi_wp2_with fail
        refine ⟨by simp, .inl ⟨_, _, rfl, run_takeDeferred hK, ?_⟩⟩
        obtain ⟨a0, _, _⟩ := facts1 (S10.cells 0 rfl)
        exact ⟨.bool false, by simp [results, Tryz.f11, Tryz.results11, go_sem, a0], by rw [HFA.out], S10.old⟩

end Go.Proofs.YtkdkdmjhhgllgaaGreatDoor
end

section
namespace Go.Proofs.YtkdkdmjhhgllgaaGreatDoor
open Go.RowKit Go.Shelf
attribute [local go_sem] Oper.semAt_some

theorem fair_valid {T : Tab} (h : fairB T = true) : validB T = true := (plain_parts (fair_parts h).1).2.1

end Go.Proofs.YtkdkdmjhhgllgaaGreatDoor
end

section
namespace Go.Proofs.YtkdkdmjhhgllgaaGreatDoor
open Go.RowKit Go.Shelf
attribute [local go_sem] Oper.semAt_some

theorem far_of {i : It} {l : List It} (h : ∀ j ∈ l, j.hi ≤ i.lo ∨ i.hi ≤ j.lo) : Far i l := by
  induction l with
  | nil => trivial
  | cons j l ih => exact ⟨h j (List.mem_cons_self ..), ih fun k hk => h k (List.mem_cons_of_mem _ hk)⟩
/-- A row is made longer: where it lies or in a new block. -/
theorem St.appendAny {w0 w w1 : World} {l : List It} {lo hi : Nat} {v v' : Value} {xs : List Int} {x : Int} (h : St w0 w (It.row lo hi v xs :: l)) (hf : Far (It.row lo hi v xs) l) (hlo : w0.heap.size ≤ lo) (o : Obj)
    (hown : w1.ownsRow lo 3 1 v' (xs.length + 1) (xs.map (Value.int .i64) ++ [.int .i64 x])) (hg : (w.alloc o).grownBy w1 v.ownBlock) (hat : v'.ownBlock = v.ownBlock ∨ v'.ownBlock = some (w.alloc o).heap.size) :
    ∃ lo' hi', lo ≤ lo' ∧ ((lo' = lo ∧ hi' = hi) ∨ (w.heap.size + 1 ≤ lo' ∧ lo' ≤ hi')) ∧ St w0 w1 (It.row lo' hi' v' (xs ++ [x]) :: l) := by
  have h1 := h.below ((Below.refl _ w).alloc (Nat.le_refl _) o)
  have h2 := (h1.get 0 rfl : (It.row lo hi v xs).P _)
  have hhi := (h1.all _ (List.mem_cons_self ..)).1
  have hz := hg.size
  rcases hat with e | e
  · refine ⟨lo, hi, Nat.le_refl _, .inl ⟨rfl, rfl⟩, h1.write hg (fun k e => ⟨(h2.1.lt k e).1, h2.2 k e⟩) hf hlo (Nat.le_trans hhi hz) ⟨by simpa using hown, fun k e2 => h2.2 k (by rw [← e]; exact e2)⟩⟩
  · have hlt := (hown.lt _ e).2
    have hle := (hown.lt _ e).1
    refine ⟨(w.alloc o).heap.size, (w.alloc o).heap.size + 1, hle, .inr ⟨by simp, Nat.le_succ _⟩, h1.write hg (fun k e => ⟨(h2.1.lt k e).1, h2.2 k e⟩) hf hlo (by show _ + 1 ≤ _; omega) ⟨⟨by simp, ?_⟩, fun k e2 => ?_⟩⟩
    · rcases hown.2 with ⟨rfl, _⟩ | ⟨g, cp, cur, rfl, hb, hrest⟩
      · cases e
      · have hgg : g = (w.alloc o).heap.size := by simpa [Value.ownBlock] using e
        exact .inr ⟨g, cp, cur, by simp, by omega, by simpa using hrest⟩
    · rw [e] at e2; cases e2; exact Nat.lt_succ_self _

/-- What lies in memory while keys settle: the list of those that have, its variable, the slots, the table's variable. -/
abbrev carIt (Bt Bs ga cap : Nat) (T : Tab) (lo hi : Nat) (v : Value) (zs L : List Int) (l : List It) : List It :=
  It.row lo hi v L :: It.box Bs #[v] 23 :: It.own ga (ga + 1) (some ⟨ga, 0, none⟩) zs :: It.box Bt #[.int .i64 T.t, .int .i64 T.p, .slice (some ⟨ga, 0, none⟩) T.zs.length cap] 25 :: l

theorem one_new {W W1 : World} {x : Value} {t : TypeId} (h : W1.heap.size = W.heap.size) : ∀ (j : Nat) (u : Value), [x][j]? = some u → (W1.alloc (.cells #[x] t)).cell? ((⟨W.heap.size, 0, none⟩ : Addr).add j) = some u := by
  rw [← h]
  exact cell_one_new W1 x t
theorem size_new {W W1 : World} {c : Array Value} {t : TypeId} {b : Nat} (h : W1.heap.size = W.heap.size) (hb : b ≤ W.heap.size) : b ≤ (W1.alloc (.cells c t)).heap.size := by
  rw [World.size_alloc]; omega

set_option maxRecDepth 100000 in
set_option maxHeartbeats 1000000 in
theorem settle_any (Bt Bs ga cap X : Nat) (T : Tab) (lo hi : Nat) (v : Value) (zs L : List Int) (l : List It) (k : Nat) (x : Int) (W0 W : World) (S : St W0 W (carIt Bt Bs ga cap T lo hi v zs L l)) (hk : k < zs.length) (hz : zs.length = T.zs.length) (hn : T.zs.length ≤ 16) (hl : L.length ≤ 100)
    (h0 : W0.heap.size ≤ ga) (h1 : Bt < ga) (h2 : ga < Bs) (h3 : Bs < lo) (h4 : lo ≤ hi) (hX : hi ≤ X) (hX2 : Bs < X) (hlX : ∀ i ∈ l, X ≤ i.lo) :
    Calls Tryz.prog 87 #[.int .i64 k, .int .i64 x, .pointer (some ⟨Bt, 0, none⟩), .pointer (some ⟨Bs, 0, none⟩)] W fun e W' => e = .returned (.tuple #[]) ∧ ∃ lo' hi' v', Bs < lo' ∧ lo' ≤ hi' ∧ ((lo' = lo ∧ hi' = hi) ∨ W.heap.size ≤ lo') ∧ St W0 W' (carIt Bt Bs ga cap T lo' hi' v' (zs.set k x) (L ++ [x]) l) := by
  obtain ⟨i0, hi0, hz0, hz1, hz2⟩ := info_parts Tryz.info3
  have HI := Lib.hid hi0; have HZ0 := Lib.hid hz0; have HZ1 := Lib.hid hz1; have HZ2 := Lib.hid hz2
  clear hi0 hz0 hz1 hz2
  have zb : Bs + 1 ≤ W.heap.size := S.sz 1 rfl
  have zh : lo ≤ W.heap.size := Nat.le_trans h4 (S.sz 0 rfl)
  have FL := Lib.hid fun (i : It) (h : i.hi ≤ X) => (far_of (fun j hj => .inr (Nat.le_trans h (hlX j hj))) : Far i l)
  obtain ⟨x0, x1, x2, x3, x4, x5, xz⟩ := facts3 (S.cells 3 rfl)
  obtain ⟨q, f⟩ := rowOwn_at (S.owns 2 rfl) (i := k) hk
  have s0 : (0 : Int) ≤ (k : Int) := by omega
  have s1 : (k : Int) < (T.zs.length : Int) := by omega
  have S1 := S.storeRow 2 k hk rfl ⟨by simp [It.box, It.own, It.row]; omega, by simp [It.box, It.own]; omega, by simp [It.box, It.own]; omega, FL.out _ (by simp [It.own]; omega)⟩ h0 x
  simp only [List.set_cons_zero, List.set_cons_succ] at S1
  obtain ⟨y0, y1, yz⟩ := facts1 (S1.cells 1 rfl)
  have hown := S1.rows 0 rfl
  have z1 : (W.setCell ⟨ga, k, none⟩ (.int .i64 x)).heap.size = W.heap.size := by simp [World.setCell]
  have HCN := Lib.hid (one_new (x := .int .i64 x) (t := 3) z1)
  have HSZ := Lib.hid (size_new (c := #[.int .i64 x]) (t := 3) z1 zh)
  have FR : Far (It.row lo hi v L) (It.box Bs #[v] 23 :: It.own ga (ga + 1) (some ⟨ga, 0, none⟩) (zs.set k x) :: It.box Bt #[.int .i64 T.t, .int .i64 T.p, .slice (some ⟨ga, 0, none⟩) T.zs.length cap] 25 :: l) := ⟨by simp [It.box, It.row]; omega, by simp [It.own, It.row]; omega, by simp [It.box, It.row]; omega, FL.out _ hX⟩
  have FB := fun (lo' hi' : Nat) (v' : Value) (h : lo ≤ lo') => (show Far (It.box Bs #[v] 23) (It.row lo' hi' v' (L ++ [x]) :: It.own ga (ga + 1) (some ⟨ga, 0, none⟩) (zs.set k x) :: It.box Bt #[.int .i64 T.t, .int .i64 T.p, .slice (some ⟨ga, 0, none⟩) T.zs.length cap] 25 :: l) from ⟨by simp [It.box, It.row]; omega, by simp [It.own, It.box]; omega, by simp [It.box]; omega, FL.out _ (by simp [It.box]; omega)⟩)
  have FB := Lib.hid FB
  have FR := Lib.hid FR
  have S1 := Lib.hid S1
  clear S
  go_enter Tryz.func87, Tryz.ntmps87
  go_wp2_with (at_builtin; refine wpList_append_own_at _ rfl _ _ 23 rfl lo 3 i0 (.int .i64 0) 1 8 Tryz.underlying23 HI.out HZ0.out HZ1.out HZ2.out rfl (by decide) _ _ _ rfl (hown.alloc _) ⟨W.heap.size, 0, none⟩ 1 1 [.int .i64 x] rfl rfl HCN.out (by simp [Value.oneCell']) (by unfold maxLen; omega) (by omega) HSZ.out ?_; intro v' w6 hown6 hgrow6 _ hat6; obtain ⟨lo', hi', hlo', hor, S2⟩ := S1.out.appendAny FR.out (by omega) _ hown6 hgrow6 hat6; obtain ⟨g', cap', rfl⟩ := ownsRow_more hown6; clear hown6 hgrow6 hat6; obtain ⟨u0, u1, uz⟩ := facts1 (S2.cells 1 rfl))
  have S3 := S2.setBoxAt 1 rfl 0 (.slice (some ⟨g', 0, none⟩) (L.length + 1) cap') (setCell_one0 (S2.cells 1 rfl) _) (FB.out lo' hi' _ hlo') (by omega)
  go_end0
  exact ⟨rfl, lo', hi', _, by omega, by omega, by rw [z1] at hor; omega, S3⟩

/-- A lane's box and a box of three cells, as a region asks it. -/
theorem St.range {w0 w : World} {l : List It} {b b2 : Nat} {LL : List Value} {x y z : Value} {t t2 : TypeId} (h : St w0 w l) (n m : Nat) (hn : l[n]? = some (It.box b LL.toArray t)) (hm : l[m]? = some (It.box b2 #[x, y, z] t2)) :
    w.rangeAt b 0 LL ∧ w.cell? ⟨b2, 0, none⟩ = some x ∧ w.cell? ⟨b2, 1, none⟩ = some y ∧ w.cell? ⟨b2, 2, none⟩ = some z := by
  have hL := h.cells n hn
  have f := facts3 (h.cells m hm)
  refine ⟨fun j v hj => ?_, f.1, f.2.1, f.2.2.1⟩
  rw [Nat.zero_add]
  unfold World.cell?
  rw [hL]
  simpa using hj

/-- What a key that is on its way asks of the slot to which it has come. -/
structure CarryAt (T : Tab) (key : Int) (d : Nat) : Prop where
  slot : stepS T (homeN T key) d < T.zs.length
  k0 : 0 ≤ (cm T key d).1
  k9 : (cm T key d).1 ≤ 99
  far : (cm T key d).2 ≤ 40
  len : (outF T key d).length = T.zs.length
  few : (setF T key d).length ≤ 16
theorem carry_at {T : Tab} {key : Int} (F : FputSays T key) {d : Nat} (hd : d ≤ endF T key) : CarryAt T key d := by
  obtain ⟨⟨l1, l2⟩, _⟩ := valid_facts F.val
  have O := F.way d hd
  have h1 := cm_away (key := key) F.val d
  have h2 := setF_len T key d
  have h3 := F.elt
  exact ⟨stepS_lt l1 _ _, O.k0, O.k9, by omega, outF_len T key d, by omega⟩

set_option maxRecDepth 100000 in
set_option maxHeartbeats 4000000 in
theorem carry_any (T : Tab) (g Bt Bs ga cap : Nat) (key : Int) (W0 : World) (F : FputSays T key) (hR : RingAt W0 g T) (hg : g < W0.heap.size) (h0 : W0.heap.size ≤ ga) (h1 : Bt < ga) (h2 : ga < Bs) :
    ∀ m d, d + m = endF T key → ∀ (hm : Int) (lo hi : Nat) (v : Value) (W : World), Bs < lo → lo ≤ hi → St W0 W (carIt Bt Bs ga cap T lo hi v (outF T key d) (setF T key d) []) →
    Calls Tryz.prog 86 #[.agg (laneK g T T.zs.length), spotV (cm T key d).1 hm ((cm T key d).2 : Nat), .int .i64 (stepS T (homeN T key) d : Nat), .func (.func 87) #[] #[.pointer (some ⟨Bt, 0, none⟩), .pointer (some ⟨Bs, 0, none⟩)]] W
      fun e W' => e = .returned (.tuple #[]) ∧ ∃ lo hi v, Bs < lo ∧ St W0 W' (carIt Bt Bs ga cap T lo hi v (fputZ T key) (key :: fputL T key) []) := by
  obtain ⟨⟨l1, l2⟩, _⟩ := valid_facts F.val
  intro m
  induction m with
  | zero =>
    intro d hd hm lo hi v W hlo hlh S
    obtain ⟨c1, c2, c3, c4, c5, c6⟩ := carry_at F (d := d) (by omega)
    obtain rfl : d = endF T key := by omega
    have HAH := Lib.hid (ahead_if T (stepS T (homeN T key) (endF T key)) (cm T key (endF T key)).1 (cm T key (endF T key)).2)
    have hno : aheadB T (stepS T (homeN T key) (endF T key)) (cm T key (endF T key)).1 (cm T key (endF T key)).2 = false := ahead_free (by rw [free_away (by rw [F.eat]; omega)]; omega)
    have HZ := Lib.hid (show fputZ T key = (outF T key (endF T key)).set (stepS T (homeN T key) (endF T key)) (cm T key (endF T key)).1 from rfl)
    have HL := Lib.hid (set_mov T key (endF T key))
    have HLF := Lib.hid (show fputL T key = movF T key (endF T key) from rfl)
    obtain ⟨e0, e1, e2⟩ := lzk_at T T.zs.length (stepS T (homeN T key) (endF T key)) c1
    have S0 := (S.alloc (laneK g T T.zs.length) 78).alloc #[.int .i64 (cm T key (endF T key)).1, .int .i64 hm, .int .i64 ((cm T key (endF T key)).2 : Nat)] 75
    obtain ⟨LR, LC, _⟩ := lane_cells (S0.cells 1 rfl)
    have p0 := LC (stepS T (homeN T key) (endF T key) * 3) (by omega)
    have p1 := LC (stepS T (homeN T key) (endF T key) * 3 + 1) (by omega)
    have p2 := LC (stepS T (homeN T key) (endF T key) * 3 + 2) (by omega)
    rw [e0] at p0; rw [e1] at p1; rw [e2] at p2
    rw [F.eat] at p0
    clear LC e0 e1 e2
    have HST := Lib.hid fun (W' : World) => standsAhead_any (nth T.zs (stepS T (homeN T key) (endF T key))) (homeT T (nth T.zs (stepS T (homeN T key) (endF T key)))) (awayOf T (stepS T (homeN T key) (endF T key) : Nat)) (cm T key (endF T key)).1 hm ((cm T key (endF T key)).2 : Nat) W'
    rw [← HAH.out, hno, F.eat] at HST
    rw [F.eat] at p1
    clear hno HAH hd
    generalize outF T key (endF T key) = zs at *
    generalize setF T key (endF T key) = L at *
    generalize (cm T key (endF T key)).1 = ck at *
    generalize (cm T key (endF T key)).2 = ca at *
    generalize stepS T (homeN T key) (endF T key) = s at *
    generalize homeT T (-1) = hy at *
    generalize awayOf T (s : Int) = aw at *
    have z0 : hi ≤ W.heap.size := S.sz 0 rfl
    have z2 : Bs + 1 ≤ W.heap.size := S.sz 1 rfl
    have S1 := S0.alloc #[.int .i64 (-1), .int .i64 hy, .int .i64 aw] 75
    simp only [World.size_alloc] at S0 S1
    have k0 : (0 : Int) ≤ (s : Int) := by omega
    have k1 : (s : Int) < 16 := by omega
    rw [show s * 3 + 1 = 1 + s * 3 from Nat.add_comm _ _] at p0
    rw [show s * 3 + 1 + 1 = 1 + s * 3 + 1 by omega] at p1
    rw [show s * 3 + 2 + 1 = 1 + s * 3 + 2 by omega] at p2
    obtain ⟨u0, u1, u2, u3, u4, u5, uz⟩ := facts3 (S0.cells 0 rfl)
    unfold spotV
    go_enter Tryz.func86, Tryz.ntmps86
    go_step
    go_step
    go_step
    refine wide_box rfl 78 (.tmp 0) rfl (laneK g T T.zs.length) rfl ?_
    go_wp2_with fail
    have S2 : St W0 _ (carIt Bt Bs ga cap T lo hi v zs L [It.box (W.heap.size + 1 + 1) #[.int .i64 (-1), .int .i64 hy, .int .i64 aw] 75, It.box (W.heap.size + 1) #[.int .i64 ck, .int .i64 hm, .int .i64 ca] 75, It.box W.heap.size (laneK g T T.zs.length) 78]) := S1.turn (fun i hi => by
      simp only [List.mem_cons, List.not_mem_nil, or_false] at hi ⊢
      rcases hi with rfl | rfl | rfl | rfl | rfl | rfl | rfl <;> simp)
    clear S S0 S1 p0 p1 p2 u0 u1 u2 u3 u4 u5 uz LR
    unfold spotV at HST
    refine (HST.out _).mono ?_
    rintro e w5 ⟨rfl, hb⟩
    have S5 := S2.below hb
    clear S2 hb
    obtain ⟨u0, u1, u2, u3, u4, u5, uz⟩ := facts3 (S5.cells 5 rfl)
    obtain ⟨v0, v1, v2, v3, v4, v5, vz⟩ := facts3 (S5.cells 4 rfl)
    have hkB : inB (-1) 0 99 = false := rfl
    go_wp2_with fail
    clear u0 u1 u2 u3 u4 u5 uz v0 v1 v2 v3 v4 v5 vz
    refine (settle_any Bt Bs ga cap W.heap.size T lo hi v zs L _ s ck W0 _ S5 (by omega) c5 l2 (by omega) h0 h1 h2 hlo hlh z0 z2 (fun i hi => by
      simp only [List.mem_cons, List.not_mem_nil, or_false] at hi
      rcases hi with rfl | rfl | rfl <;> simp [It.box] <;> omega)).mono ?_
    rintro e w6 ⟨rfl, lo', hi', v', q1, q2, q3, S6⟩
    have z5 : W.heap.size + 1 + 1 + 1 ≤ w6.heap.size := S6.sz 4 rfl
    have z6 : W.heap.size + 1 + 1 + 1 ≤ w5.heap.size := S5.sz 4 rfl
    obtain ⟨u0, u1, u2, u3, u4, u5, uz⟩ := facts3 (S6.cells 5 rfl)
    obtain ⟨v0, v1, v2, v3, v4, v5, vz⟩ := facts3 (S6.cells 4 rfl)
    have S8 := S6.set3Box 5 rfl (by simp [Far, It.box, It.own, It.row]; omega) (by omega) (.int .i64 (-1)) (.int .i64 hy) (.int .i64 aw)
    simp only [List.set_cons_zero, List.set_cons_succ] at S8
    go_wp2_with (go_at_call 66; refine (heldIsKey_any _ _).mono ?_; rintro e w' ⟨rfl, rfl⟩; rw [hkB])
    go_end0
    exact ⟨rfl, lo', hi', v', q1, S8.turn (fun i hi => by
        rw [HZ.out, HLF.out, ← HL.out] at hi
        simp only [List.mem_cons, List.not_mem_nil, or_false] at hi ⊢
        rcases hi with rfl | rfl | rfl | rfl <;> simp)⟩
  | succ m ih =>
    intro d hd hm lo hi v W hlo hlh S
    obtain ⟨c1, c2, c3, c4, c5, c6⟩ := carry_at F (d := d) (by omega)
    have HAH := Lib.hid (ahead_if T (stepS T (homeN T key) d) (cm T key d).1 (cm T key d).2)
    have HIH := Lib.hid (ih (d + 1) (by omega))
    have hne := endF_before (T := T) (key := key) (d := d) (by omega)
    obtain ⟨y0, y9⟩ := plain_key F.plain c1 hne
    have HAW : Hid (awayOf T (stepS T (homeN T key) d : Nat) = (awN T T.zs (stepS T (homeN T key) d) : Nat)) := Lib.hid (awN_of (T := T) (zs := T.zs) F.val rfl c1 y0)
    have han : awN T T.zs (stepS T (homeN T key) d) ≤ 16 := by have := dst_lt (homeN_lt F.val (nth T.zs (stepS T (homeN T key) d))) c1; unfold awN; omega
    have HCM := Lib.hid (show cm T key (d + 1) = if aheadB T (stepS T (homeN T key) d) (cm T key d).1 (cm T key d).2 then ((cm T key d).1, (cm T key d).2 + 1) else (nth T.zs (stepS T (homeN T key) d), awN T T.zs (stepS T (homeN T key) d) + 1) from rfl)
    have HOF := Lib.hid (show outF T key (d + 1) = if aheadB T (stepS T (homeN T key) d) (cm T key d).1 (cm T key d).2 then outF T key d else (outF T key d).set (stepS T (homeN T key) d) (cm T key d).1 from rfl)
    have HSF := Lib.hid (show setF T key (d + 1) = if aheadB T (stepS T (homeN T key) d) (cm T key d).1 (cm T key d).2 then setF T key d else setF T key d ++ [(cm T key d).1] from rfl)
    have HNX := Lib.hid (show stepS T (homeN T key) (d + 1) = (stepS T (homeN T key) d + 1) % T.zs.length from by unfold stepS; rw [Nat.mod_add_mod, Nat.add_assoc])
    obtain ⟨e0, e1, e2⟩ := lzk_at T T.zs.length (stepS T (homeN T key) d) c1
    have S0 := (S.alloc (laneK g T T.zs.length) 78).alloc #[.int .i64 (cm T key d).1, .int .i64 hm, .int .i64 ((cm T key d).2 : Nat)] 75
    obtain ⟨LR, LC, _⟩ := lane_cells (S0.cells 1 rfl)
    have p0 := LC (stepS T (homeN T key) d * 3) (by omega)
    have p1 := LC (stepS T (homeN T key) d * 3 + 1) (by omega)
    have p2 := LC (stepS T (homeN T key) d * 3 + 2) (by omega)
    rw [e0] at p0; rw [e1] at p1; rw [e2] at p2
    clear LC e0 e1 e2 ih hne
    have HST := Lib.hid fun (W' : World) => standsAhead_any (nth T.zs (stepS T (homeN T key) d)) (homeT T (nth T.zs (stepS T (homeN T key) d))) (awayOf T (stepS T (homeN T key) d : Nat)) (cm T key d).1 hm ((cm T key d).2 : Nat) W'
    rw [← HAH.out] at HST
    generalize outF T key (d + 1) = zs' at *
    generalize setF T key (d + 1) = L' at *
    generalize cm T key (d + 1) = cx' at *
    generalize stepS T (homeN T key) (d + 1) = s' at *
    generalize aheadB T (stepS T (homeN T key) d) (cm T key d).1 (cm T key d).2 = ah at *
    generalize awN T T.zs (stepS T (homeN T key) d) = an at *
    generalize outF T key d = zs at *
    generalize setF T key d = L at *
    generalize (cm T key d).1 = ck at *
    generalize (cm T key d).2 = ca at *
    generalize stepS T (homeN T key) d = s at *
    generalize homeT T (nth T.zs s) = hy at *
    generalize nth T.zs s = y at *
    generalize awayOf T (s : Int) = aw at *
    have z0 : hi ≤ W.heap.size := S.sz 0 rfl
    have z2 : Bs + 1 ≤ W.heap.size := S.sz 1 rfl
    have S1 := S0.alloc #[.int .i64 y, .int .i64 hy, .int .i64 aw] 75
    simp only [World.size_alloc] at S0 S1
    have k0 : (0 : Int) ≤ (s : Int) := by omega
    have k1 : (s : Int) < 16 := by omega
    rw [show s * 3 + 1 = 1 + s * 3 from Nat.add_comm _ _] at p0
    rw [show s * 3 + 1 + 1 = 1 + s * 3 + 1 by omega] at p1
    rw [show s * 3 + 2 + 1 = 1 + s * 3 + 2 by omega] at p2
    obtain ⟨u0, u1, u2, u3, u4, u5, uz⟩ := facts3 (S0.cells 0 rfl)
    unfold spotV
    go_enter Tryz.func86, Tryz.ntmps86
    go_step
    go_step
    go_step
    refine wide_box rfl 78 (.tmp 0) rfl (laneK g T T.zs.length) rfl ?_
    go_wp2_with fail
    have S2 : St W0 _ (carIt Bt Bs ga cap T lo hi v zs L [It.box (W.heap.size + 1 + 1) #[.int .i64 y, .int .i64 hy, .int .i64 aw] 75, It.box (W.heap.size + 1) #[.int .i64 ck, .int .i64 hm, .int .i64 ca] 75, It.box W.heap.size (laneK g T T.zs.length) 78]) := S1.turn (fun i hi => by
      simp only [List.mem_cons, List.not_mem_nil, or_false] at hi ⊢
      rcases hi with rfl | rfl | rfl | rfl | rfl | rfl | rfl <;> simp)
    clear S S0 S1 p0 p1 p2 u0 u1 u2 u3 u4 u5 uz LR
    unfold spotV at HST
    refine (HST.out _).mono ?_
    rintro e w5 ⟨rfl, hb⟩
    have S5 := S2.below hb
    clear S2 hb
    obtain ⟨u0, u1, u2, u3, u4, u5, uz⟩ := facts3 (S5.cells 5 rfl)
    obtain ⟨v0, v1, v2, v3, v4, v5, vz⟩ := facts3 (S5.cells 4 rfl)
    have HWW : Hid (IntKind.i64.wrap ((s : Int) + 1) = (s : Int) + 1) := Lib.hid (IntWalk.i64_in _ (by omega))
    have HNX2 : Hid (((s : Int) + 1) % (T.zs.length : Int) = (s' : Int)) := Lib.hid (by rw [HNX.out]; simp)
    cases ah
    · rw [if_neg (by simp)] at HCM HOF HSF
      have hkB : inB y 0 99 = true := inB_true ⟨y0, y9⟩
      go_wp2_with fail
      clear u0 u1 u2 u3 u4 u5 uz v0 v1 v2 v3 v4 v5 vz
      refine (settle_any Bt Bs ga cap W.heap.size T lo hi v zs L _ s ck W0 _ S5 (by omega) c5 l2 (by omega) h0 h1 h2 hlo hlh z0 z2 (fun i hi => by
        simp only [List.mem_cons, List.not_mem_nil, or_false] at hi
        rcases hi with rfl | rfl | rfl <;> simp [It.box] <;> omega)).mono ?_
      rintro e w6 ⟨rfl, lo', hi', v', q1, q2, q3, S6⟩
      have z5 : W.heap.size + 1 + 1 + 1 ≤ w6.heap.size := S6.sz 4 rfl
      have z6 : W.heap.size + 1 + 1 + 1 ≤ w5.heap.size := S5.sz 4 rfl
      obtain ⟨u0, u1, u2, u3, u4, u5, uz⟩ := facts3 (S6.cells 5 rfl)
      obtain ⟨v0, v1, v2, v3, v4, v5, vz⟩ := facts3 (S6.cells 4 rfl)
      have S8 := (S6.set3Box 5 rfl (by simp [Far, It.box, It.own, It.row]; omega) (by omega) (.int .i64 y) (.int .i64 hy) (.int .i64 aw)).setBoxAt 5 rfl 2 (.int .i64 (aw + 1)) (setCell_three2 (St.cells (S6.set3Box 5 rfl (by simp [Far, It.box, It.own, It.row]; omega) (by omega) (.int .i64 y) (.int .i64 hy) (.int .i64 aw)) 5 rfl) _) (by simp [Far, It.box, It.own, It.row]; omega) (by omega)
      simp only [List.set_cons_zero, List.set_cons_succ] at S8
      have HREC := Lib.hid fun (W' : World) => HIH.out hy lo' hi' v' W' q1 q2
      have haw : ((an + 1 : Nat) : Int) = aw + 1 := by have := HAW.out; omega
      rw [HCM.out] at HREC
      simp only [haw] at HREC
      have w16 : -1 ≤ aw ∧ aw ≤ 1000 := by have := HAW.out; omega
      go_wp2_with (go_at_call 66; refine (heldIsKey_any _ _).mono ?_; rintro e w' ⟨rfl, rfl⟩; rw [hkB])
      generalize hW7 : ((((w6.setCell ⟨W.heap.size + 1, 0, none⟩ (.int .i64 y)).setCell ⟨W.heap.size + 1, 1, none⟩ (.int .i64 hy)).setCell ⟨W.heap.size + 1, 2, none⟩ (.int .i64 aw)).setCell ⟨W.heap.size + 1, 2, none⟩ (.int .i64 (aw + 1))) = W7 at S8 ⊢
      clear hW7 S5 S6 u0 u1 u2 u3 u4 u5 uz v0 v1 v2 v3 v4 v5 vz
      have S7 := S8
      clear S8
      have S7d : St W0 W7 (carIt Bt Bs ga cap T lo' hi' v' zs' L' []) := (S7.turn (fun i hi => by
        rw [HOF.out, HSF.out] at hi
        simp only [List.mem_cons, List.not_mem_nil, or_false] at hi ⊢
        rcases hi with rfl | rfl | rfl | rfl <;> simp))
      clear HOF HSF HCM
      have z7 : W.heap.size + 1 + 1 + 1 ≤ W7.heap.size := S7.sz 4 rfl
      have hLN : W7.heap[W.heap.size]? = some (.cells (laneK g T T.zs.length) 78 (0, 0)) := S7.cells 6 rfl
      have q8 := (lane_cells hLN).1
      obtain ⟨x0, x1, x2, x3, x4, x5, xz⟩ := facts3 (S7.cells 5 rfl)
      have hmix : Tryz.prog.follows .mixedOrders = true := by kernel_rfl
      refine (wpIn_wide (n := 9)).1 ?_
      refine wpIn_region_last (l := [_, _, _, _, _, _, _, _]) (o := _) (fun w' => Below W7.heap.size W7 w') hmix (by kernel_rfl) (by kernel_rfl) (by kernel_rfl) rfl ((Below.refl _ _).drew) ?_
      refine wpQuietIn_step (fun _ _ _ _ => trivial) (fun K hK => ?_)
      rw [if_pos (by rfl)]
      refine ⟨.agg (laneK g T T.zs.length), quiet_load fun w' hb => wide_load_run (.tmp 4) 78 rfl W.heap.size 78 _ (0, 0) _ rfl ((hb.block _ (by omega)).trans hLN) Tryz.underlying78 rfl (by rw [laneSize, laneK_size]), hK _ ?_⟩
      clear hK K
      refine wpQuietIn_step (fun _ _ _ _ => trivial) (fun K hK => ?_)
      go_simp
      refine ⟨spotV y hy (aw + 1), fun w' hb => ?_, hK _ ?_⟩
      · have t0 := (hb.cell (p := ⟨W.heap.size + 1, 0, none⟩) (by show W.heap.size + 1 < _; omega)).trans x0
        have t1 := (hb.cell (p := ⟨W.heap.size + 1, 1, none⟩) (by show W.heap.size + 1 < _; omega)).trans x1
        have t2 := (hb.cell (p := ⟨W.heap.size + 1, 2, none⟩) (by show W.heap.size + 1 < _; omega)).trans x2
        unfold spotV
        go_simp
      clear hK K
      refine wpQuietIn_step (fun _ _ _ _ => trivial) (fun K hK => ?_)
      go_simp
      refine ⟨_, fun w' hb => rfl, hK _ ?_⟩
      clear hK K
      refine wpQuietIn_step (fun _ _ _ _ => trivial) (fun K hK => ?_)
      go_simp
      refine ⟨.slice (some ⟨g, 0, none⟩) T.zs.length T.zs.length, fun w' hb => ?_, hK _ ?_⟩
      · have t0 := (hb.cell (p := ⟨W.heap.size, 0, none⟩) (by show W.heap.size < _; omega)).trans q8
        go_simp
      clear hK K
      refine wpQuietIn_step (fun _ _ _ _ => trivial) (fun K hK => ?_)
      go_simp
      refine ⟨_, fun w' hb => rfl, hK _ ?_⟩
      clear hK K
      refine wpQuietIn_step (fun _ _ _ _ => trivial) (fun K hK => ?_)
      go_simp
      refine ⟨_, fun w' hb => rfl, hK _ ?_⟩
      clear hK K
      refine wpQuietIn_step (fun _ _ _ _ => trivial) (fun K hK => ?_)
      go_simp
      refine ⟨.int .i64 s', fun w' hb => ?_, hK _ ?_⟩
      · rw [HWW.out]
        refine (callsIn_wide.2 (wrap_any _ _ _ _ _ l1 l2 (by omega) (by omega))).mono ?_
        rintro e w9 ⟨rfl, rfl⟩
        exact ⟨by rw [HNX2.out], hb⟩
      clear hK K
      refine wpQuietIn_step (fun _ _ _ _ => trivial) (fun K hK => ?_)
      go_simp
      refine ⟨_, fun w' hb => rfl, hK _ ?_⟩
      clear hK K
      refine wpQuietIn_nil ?_
      rintro w8 hb8
      go_simp
      refine ⟨trivial, (callsIn_wide.2 (HREC.out w8 (S7d.below hb8))).mono ?_⟩
      rintro e w9 ⟨rfl, lo9, hi9, v9, q9, S9⟩
      show bodyPost Tryz.prog _ _ Exit.normal _ w9
      go_end0
      exact ⟨rfl, lo9, hi9, v9, q9, S9⟩
    · rw [if_pos rfl] at HCM HOF HSF
      have hkB : inB ck 0 99 = true := inB_true ⟨c2, c3⟩
      have z6 : W.heap.size + 1 + 1 + 1 ≤ w5.heap.size := S5.sz 4 rfl
      have S7 := S5.setBoxAt 5 rfl 2 (.int .i64 ((ca : Int) + 1)) (setCell_three2 (S5.cells 5 rfl) _) (by simp [Far, It.box, It.own, It.row]; omega) (by omega)
      simp only [List.set_cons_zero, List.set_cons_succ] at S7
      have HREC := Lib.hid fun (W' : World) => HIH.out hm lo hi v W' hlo hlh
      rw [HCM.out] at HREC
      go_wp2_with (go_at_call 66; refine (heldIsKey_any _ _).mono ?_; rintro e w' ⟨rfl, rfl⟩; rw [hkB])
      obtain ⟨W7, hW7⟩ : ∃ W7, w5.setCell ⟨W.heap.size + 1, 2, none⟩ (.int .i64 ((ca : Int) + 1)) = W7 := ⟨_, rfl⟩
      rw [hW7] at S7 ⊢
      clear hW7 S5 u0 u1 u2 u3 u4 u5 uz v0 v1 v2 v3 v4 v5 vz
      have S7d : St W0 W7 (carIt Bt Bs ga cap T lo hi v zs' L' []) := (S7.turn (fun i hi => by
        rw [HOF.out, HSF.out] at hi
        simp only [List.mem_cons, List.not_mem_nil, or_false] at hi ⊢
        rcases hi with rfl | rfl | rfl | rfl <;> simp))
      clear HOF HSF HCM
      have z7 : W.heap.size + 1 + 1 + 1 ≤ W7.heap.size := S7.sz 4 rfl
      have hLN : W7.heap[W.heap.size]? = some (.cells (laneK g T T.zs.length) 78 (0, 0)) := S7.cells 6 rfl
      have q8 := (lane_cells hLN).1
      obtain ⟨x0, x1, x2, x3, x4, x5, xz⟩ := facts3 (S7.cells 5 rfl)
      have hmix : Tryz.prog.follows .mixedOrders = true := by kernel_rfl
      refine (wpIn_wide (n := 9)).1 ?_
      refine wpIn_region_last (l := [_, _, _, _, _, _, _, _]) (o := _) (fun w' => Below W7.heap.size W7 w') hmix (by kernel_rfl) (by kernel_rfl) (by kernel_rfl) rfl ((Below.refl _ _).drew) ?_
      refine wpQuietIn_step (fun _ _ _ _ => trivial) (fun K hK => ?_)
      rw [if_pos (by rfl)]
      refine ⟨.agg (laneK g T T.zs.length), quiet_load fun w' hb => wide_load_run (.tmp 4) 78 rfl W.heap.size 78 _ (0, 0) _ rfl ((hb.block _ (by omega)).trans hLN) Tryz.underlying78 rfl (by rw [laneSize, laneK_size]), hK _ ?_⟩
      clear hK K
      refine wpQuietIn_step (fun _ _ _ _ => trivial) (fun K hK => ?_)
      go_simp
      refine ⟨spotV ck hm ((ca : Int) + 1), fun w' hb => ?_, hK _ ?_⟩
      · have t0 := (hb.cell (p := ⟨W.heap.size + 1, 0, none⟩) (by show W.heap.size + 1 < _; omega)).trans x0
        have t1 := (hb.cell (p := ⟨W.heap.size + 1, 1, none⟩) (by show W.heap.size + 1 < _; omega)).trans x1
        have t2 := (hb.cell (p := ⟨W.heap.size + 1, 2, none⟩) (by show W.heap.size + 1 < _; omega)).trans x2
        unfold spotV
        go_simp
      clear hK K
      refine wpQuietIn_step (fun _ _ _ _ => trivial) (fun K hK => ?_)
      go_simp
      refine ⟨_, fun w' hb => rfl, hK _ ?_⟩
      clear hK K
      refine wpQuietIn_step (fun _ _ _ _ => trivial) (fun K hK => ?_)
      go_simp
      refine ⟨.slice (some ⟨g, 0, none⟩) T.zs.length T.zs.length, fun w' hb => ?_, hK _ ?_⟩
      · have t0 := (hb.cell (p := ⟨W.heap.size, 0, none⟩) (by show W.heap.size < _; omega)).trans q8
        go_simp
      clear hK K
      refine wpQuietIn_step (fun _ _ _ _ => trivial) (fun K hK => ?_)
      go_simp
      refine ⟨_, fun w' hb => rfl, hK _ ?_⟩
      clear hK K
      refine wpQuietIn_step (fun _ _ _ _ => trivial) (fun K hK => ?_)
      go_simp
      refine ⟨_, fun w' hb => rfl, hK _ ?_⟩
      clear hK K
      refine wpQuietIn_step (fun _ _ _ _ => trivial) (fun K hK => ?_)
      go_simp
      refine ⟨.int .i64 s', fun w' hb => ?_, hK _ ?_⟩
      · rw [HWW.out]
        refine (callsIn_wide.2 (wrap_any _ _ _ _ _ l1 l2 (by omega) (by omega))).mono ?_
        rintro e w9 ⟨rfl, rfl⟩
        exact ⟨by rw [HNX2.out], hb⟩
      clear hK K
      refine wpQuietIn_step (fun _ _ _ _ => trivial) (fun K hK => ?_)
      go_simp
      refine ⟨_, fun w' hb => rfl, hK _ ?_⟩
      clear hK K
      refine wpQuietIn_nil ?_
      rintro w8 hb8
      go_simp
      refine ⟨trivial, (callsIn_wide.2 (HREC.out w8 (S7d.below hb8))).mono ?_⟩
      rintro e w9 ⟨rfl, lo9, hi9, v9, q9, S9⟩
      show bodyPost Tryz.prog _ _ Exit.normal _ w9
      go_end0
      exact ⟨rfl, lo9, hi9, v9, q9, S9⟩

end Go.Proofs.YtkdkdmjhhgllgaaGreatDoor
end

section
namespace Go.Proofs.YtkdkdmjhhgllgaaGreatDoor
open Go.RowKit

theorem cloneN_any (zs : List Int) (a : Option Addr) (c : Nat) (w : World) (l1 : 1 ≤ zs.length) (l2 : zs.length ≤ 16) (h : IntsAt w a zs) :
    Calls Tryz.prog 20 #[.slice a zs.length c] w fun e w' => ∃ g k, e = .returned (.slice (some ⟨g, 0, none⟩) zs.length k) ∧ OwnInts w' w.heap.size (some ⟨g, 0, none⟩) zs ∧ Below w.heap.size w w' := by
  obtain ⟨b, o, rfl, hc⟩ := h (by omega)
  refine (Tryz.slices_Clone_int b o zs.length c zs _ (Nat.le_refl _) (by omega) (fun j hj => by exact hc j hj)).mono ?_
  rintro e w2 ⟨v', rfl, hown, _, hb⟩
  obtain ⟨g, c', rfl⟩ := ownsRow_pos hown (by omega)
  rw [List.take_length] at hown
  exact ⟨g, c', rfl, ownsRow_ints hown, hb⟩

end Go.Proofs.YtkdkdmjhhgllgaaGreatDoor
end

section
namespace Go.Proofs.YtkdkdmjhhgllgaaGreatDoor
open Go.RowKit
section
variable {F : Fence} {n : Nat} {P : Program} {ops : Array Oper} {Q : Exit → Act → World → Prop}

def downB (ops : Array Oper) : Bool := (List.range ops.size).all fun i => match ops[i]? with
  | none => true
  | some o => o.after.all fun e => !Region.binds .any e || decide (e.on < i)
theorem all_of_none (hd : downB ops = true) {L : Array Bool} (hs : L.size = ops.size) (h : Region.ready .any ops L = []) : ∀ i, i < ops.size → L.getD i false = true := by
  intro i
  induction i using Nat.strongRecOn with
  | ind i ih =>
    intro hi
    cases hL : L.getD i false with
    | true => rfl
    | false =>
      exfalso
      have hlt : i < L.size := by omega
      obtain ⟨oi, hoi⟩ : ∃ oi, ops[i]? = some oi := ⟨ops[i], Array.getElem?_eq_getElem hi⟩
      have : i ∈ Region.ready .any ops L := mem_ready.2 ⟨by simp [hlt] at hL ⊢; exact hL, oi, hoi, fun e he hb => by
        have h1 := List.all_eq_true.1 hd i (List.mem_range.2 hi)
        simp only [hoi] at h1
        have h2 := Array.all_eq_true_iff_forall_mem.1 h1 e he
        simp only [hb, Bool.not_true, Bool.false_or, decide_eq_true_eq] at h2
        exact ih e.on h2 (by omega)⟩
      rw [h] at this
      cases this

/-- What holds whatever has been taken so far. -/
theorem wpAnyIn_of_inv (hd : downB ops = true) (Inv : Array Bool → Act → World → Prop)
    (hstep : ∀ (i : Nat) (o : Oper) (L : Array Bool) (a : Act) (w : World), ops[i]? = some o → L.size = ops.size → L.getD i true = false → (∀ e ∈ o.after, Region.binds .any e = true → L.getD e.on false = true) → Inv L a w → wpOpIn F n P ops Q i (Inv (L.setIfInBounds i true)) a w)
    (hend : ∀ (L : Array Bool) (a : Act) (w : World), (∀ i, i < ops.size → L.getD i false = true) → Inv L a w → Q .normal a w) :
    ∀ (fuel : Nat) (L : Array Bool) (a : Act) (w : World), L.size = ops.size → L.toList.count false ≤ fuel → Inv L a w → wpAnyIn F n P .any ops Q fuel L a w := by
  intro fuel
  induction fuel with
  | zero =>
    intro L a w hs hf hI
    have hn : Region.ready .any ops L = [] := List.eq_nil_iff_forall_not_mem.2 fun j hj => by
      obtain ⟨hj0, oj, hoj, _⟩ := mem_ready.1 hj
      have hlt : j < L.size := by have := (Array.getElem?_eq_some_iff.1 hoj).1; omega
      simp [hlt] at hj0
      have : false ∈ L.toList := by rw [← hj0]; exact Array.getElem_mem_toList hlt
      have := List.count_pos_iff.2 this
      omega
    exact ⟨hn, hend L a w (all_of_none hd hs hn) hI⟩
  | succ fuel ih =>
    intro L a w hs hf hI
    refine ⟨fun hn => hend L a w (all_of_none hd hs hn) hI, fun i hi => ?_⟩
    obtain ⟨hj0, oj, hoj, hall⟩ := mem_ready.1 hi
    refine wpOpIn_mono (fun a' w' h' => ih _ a' w' (by simpa using hs) ?_ h') (hstep i oj L a w hoj hs hj0 hall hI)
    have hlt : i < L.size := by have := (Array.getElem?_eq_some_iff.1 hoj).1; omega
    have h0 : L[i] = false := by simpa [hlt] using hj0
    have h1 : (L.setIfInBounds i true).toList.count false = L.toList.count false - 1 := by
      rw [Array.toList_setIfInBounds, List.count_set (by simpa using hlt)]
      simp [h0]
    have hp : 0 < L.toList.count false := List.count_pos_iff.2 (by rw [← h0]; exact Array.getElem_mem_toList hlt)
    omega

theorem wpIn_region_inv {id : Nat} {a : Act} {w : World} {l : List Oper} (hm : P.follows .mixedOrders = true) (hd : downB l.toArray = true) (Inv : Array Bool → Act → World → Prop)
    (hstep : ∀ (i : Nat) (o : Oper) (L : Array Bool) (a : Act) (w : World), l.toArray[i]? = some o → L.size = l.toArray.size → L.getD i true = false → (∀ e ∈ o.after, Region.binds .any e = true → L.getD e.on false = true) → Inv L a w → wpOpIn F n P l.toArray Q i (Inv (L.setIfInBounds i true)) a w)
    (hend : ∀ (L : Array Bool) (a : Act) (w : World), (∀ i, i < l.toArray.size → L.getD i false = true) → Inv L a w → Q .normal a w) (h0 : Inv (Array.replicate l.toArray.size false) a w.drew) : (Code.region id l.toArray true).wpIn F n P Q a w :=
  wpIn_region_any hm (wpAnyIn_of_inv hd Inv hstep hend _ _ _ _ (by simp) (by simp) h0)

def noGuard (l : List Oper) : Bool := l.all fun o => o.guard.isNone
/-- The same where no operation has a guard. -/
theorem wpIn_region_inv' {id : Nat} {a : Act} {w : World} {l : List Oper} (hm : P.follows .mixedOrders = true) (hd : downB l.toArray = true) (hg : noGuard l = true) (Inv : (Nat → Bool) → Act → World → Prop)
    (hstep : ∀ (i : Nat) (o : Oper) (D D' : Nat → Bool) (a : Act) (w : World), l[i]? = some o → D' i = true → (∀ j, j ≠ i → D' j = D j) → D i = false → (∀ e ∈ o.after, Region.binds .any e = true → D e.on = true) → Inv D a w → o.wpIn F n P a w (Inv D') Q)
    (hend : ∀ (D : Nat → Bool) (a : Act) (w : World), (∀ i, i < l.length → D i = true) → Inv D a w → Q .normal a w) (h0 : Inv (fun _ => false) a w.drew) : (Code.region id l.toArray true).wpIn F n P Q a w := by
  refine wpIn_region_inv hm hd (fun L a w => Inv (fun j => L.getD j false) a w) ?_ ?_ ?_
  · intro i o L a w hi hs hun hdep hI
    have hlt : i < L.size := by have := (Array.getElem?_eq_some_iff.1 hi).1; omega
    have hi' : l[i]? = some o := by simpa using hi
    have hno : o.guard = none := by
      have := List.all_eq_true.1 hg o (List.mem_of_getElem? hi')
      simpa using this
    unfold wpOpIn
    rw [hi]
    simp only []
    rw [if_pos (by simp [Region.wanted, hno])]
    refine hstep i o _ _ a w hi' ?_ (fun j hj => getD_set_ne false (Ne.symm hj)) ?_ hdep hI
    · simp [hlt]
    · simp [hlt] at hun ⊢; exact hun
  · intro L a w hall hI
    exact hend _ a w (fun i hi => hall i (by simpa using hi)) hI
  · have e : (fun j => (Array.replicate l.toArray.size false).getD j false) = fun _ => false := by
      funext j
      simp [Array.getElem?_replicate]
      split <;> rfl
    simp only [e]
    exact h0

theorem wpIn_val {o : Oper} {a : Act} {K : Act → World → Prop} {w : World} (hnd : ∀ c, o.op ≠ .defer c) (hab : o.about P w a.eval = none) (v : Value) (w' : World) (hr : (execOp a.eval o).run P w = .ok (.value v) w') (h : K (a.put o.dst v) w') : o.wpIn F n P a w K Q := by
  unfold Oper.wpIn
  refine ⟨fun f hf => (by rw [hab] at hf; cases hf), ?_⟩
  rw [Oper.semAt_eq _ _ _ hnd, hr]
  exact h
theorem wpIn_skp {o : Oper} {a : Act} {K : Act → World → Prop} {w : World} (hnd : ∀ c, o.op ≠ .defer c) (hab : o.about P w a.eval = none) (w' : World) (hr : (execOp a.eval o).run P w = .ok .skip w') (h : K (a.put o.dst undef) w') : o.wpIn F n P a w K Q := by
  unfold Oper.wpIn
  refine ⟨fun f hf => (by rw [hab] at hf; cases hf), ?_⟩
  rw [Oper.semAt_eq _ _ _ hnd, hr]
  exact h
end

end Go.Proofs.YtkdkdmjhhgllgaaGreatDoor
end

section
namespace Go.Proofs.YtkdkdmjhhgllgaaGreatDoor
open Go.RowKit Go.Shelf
attribute [local go_sem] Oper.semAt_some

set_option maxHeartbeats 2000000 in
theorem canPutFairly_any (T : Tab) (a : Option Addr) (c : Nat) (key : Int) (w : World) (hx : T.zs.length ≤ 9223372036854775807) (h1 : IntsAt w a T.zs) (hL : Laid w) :
    Calls Tryz.prog 85 #[tabV T a c, .int .i64 key] w fun e w' => e = .returned (.bool (fputOk T key)) ∧ Below w.heap.size w w' := by
  have S0 := tabBox c 25 h1
  have HF : Hid (fputOk T key = (fairB T && decide (2 ≤ countF T) && inB key 0 99 && decide (findI T key < 0))) := Lib.hid rfl
  have HC := Lib.hid fun (W : World) (h : IntsAt W a T.zs) => CountSlots_any T a c W hx h
  have HFA := Lib.hid fun (W : World) (h : IntsAt W a T.zs) (hl : Laid W) => IsFair_any T a c W hx h hl
  generalize countF T = cf at HF HC
  generalize countT T = ct at HC
  generalize countK T = ck at HC
  by_cases hc : 2 ≤ cf
  · have dc : decide (2 ≤ cf) = true := by simpa using hc
    cases hf : fairB T
    · go_enter Tryz.func85, Tryz.ntmps85
      go_wp2_with fail
      refine (HC.out _ (by exact S0.reads 1 rfl)).mono ?_
      rintro e w1 ⟨rfl, hb⟩
      have S1 := S0.below hb
      obtain ⟨x0, x1, x2, x3, x4, x5, xz⟩ := facts3 (S1.cells 0 rfl)
      go_wp2_with fail
      refine (HFA.out _ (by exact S1.reads 1 rfl) (hL.below S1.old hL.pos)).mono ?_
      rw [hf]
      rintro e w2 ⟨rfl, hb2⟩
      have S2 := S1.below hb2
      go_wp2
      go_ret
      exact ⟨by rw [HF.out, hf]; rfl, S2.old⟩
    · cases hk : inB key 0 99
      · go_enter Tryz.func85, Tryz.ntmps85
        go_wp2_with fail
        refine (HC.out _ (by exact S0.reads 1 rfl)).mono ?_
        rintro e w1 ⟨rfl, hb⟩
        have S1 := S0.below hb
        obtain ⟨x0, x1, x2, x3, x4, x5, xz⟩ := facts3 (S1.cells 0 rfl)
        go_wp2_with fail
        refine (HFA.out _ (by exact S1.reads 1 rfl) (hL.below S1.old hL.pos)).mono ?_
        rw [hf]
        rintro e w2 ⟨rfl, hb2⟩
        have S2 := S1.below hb2
        go_wp2_with fail
        refine (isKey_any _ _).mono ?_
        rw [hk]
        rintro e w3 ⟨rfl, rfl⟩
        go_wp2
        go_ret
        exact ⟨by rw [HF.out, hf, hk]; simp, S2.old⟩
      · have hv := fair_valid hf
        obtain ⟨k0, k9⟩ := inB_iff.1 hk
        have HE : Hid (fputOk T key = !decide (0 ≤ findI T key)) := Lib.hid (by
          rw [HF.out, hf, hk, dc]
          by_cases h : findI T key < 0
          · rw [decide_eq_true h, decide_eq_false (by omega)]; rfl
          · rw [decide_eq_false h, decide_eq_true (by omega)]; rfl)
        have HFI := Lib.hid fun (W : World) (h : IntsAt W a T.zs) => finds_any T a c key W hv k0 k9 h
        generalize decide (0 ≤ findI T key) = fi at HE HFI
        go_enter Tryz.func85, Tryz.ntmps85
        go_wp2_with fail
        refine (HC.out _ (by exact S0.reads 1 rfl)).mono ?_
        rintro e w1 ⟨rfl, hb⟩
        have S1 := S0.below hb
        obtain ⟨x0, x1, x2, x3, x4, x5, xz⟩ := facts3 (S1.cells 0 rfl)
        go_wp2_with fail
        refine (HFA.out _ (by exact S1.reads 1 rfl) (hL.below S1.old hL.pos)).mono ?_
        rw [hf]
        rintro e w2 ⟨rfl, hb2⟩
        have S2 := S1.below hb2
        go_wp2_with fail
        refine (isKey_any _ _).mono ?_
        rw [hk]
        rintro e w3 ⟨rfl, rfl⟩
        obtain ⟨y0, y1, y2, y3, y4, y5, yz⟩ := facts3 (S2.cells 0 rfl)
        go_wp2_with fail
        refine (HFI.out _ (by exact S2.reads 1 rfl)).mono ?_
        rintro e w4 ⟨rfl, hb4⟩
        have S4 := S2.below hb4
        cases fi
        · go_wp2
          go_ret
          exact ⟨by rw [HE.out]; rfl, S4.old⟩
        · go_wp2
          go_ret
          exact ⟨by rw [HE.out]; rfl, S4.old⟩
  · have dc : decide (2 ≤ cf) = false := by simpa using hc
    go_enter Tryz.func85, Tryz.ntmps85
    go_wp2_with fail
    refine (HC.out _ (by exact S0.reads 1 rfl)).mono ?_
    rintro e w1 ⟨rfl, hb⟩
    have S1 := S0.below hb
    go_wp2
    go_ret
    exact ⟨by rw [HF.out, dc]; simp, S1.old⟩

/-- What putFairly returns: a table with slots of its own, who settles behind the key, and whether there was room. -/
def PutFRes (T : Tab) (L : List Int) (ok : Bool) (w : World) (e : Ending) (w' : World) : Prop :=
  ∃ a c b d, e = .returned (.tuple #[.agg #[.int .i64 T.t, .int .i64 T.p, .slice a T.zs.length c], .slice b L.length d, .bool ok]) ∧ OwnInts w' w.heap.size a T.zs ∧ OwnInts w' w.heap.size b L ∧ Below w.heap.size w w'

/-- What holds of a lane and a spot that are made in any order. -/
structure FI (lz : Array Value) (T : Tab) (a : Option Addr) (c : Nat) (key : Int) (hn lo : Nat) (w0 : World) (l0 : List It) (D : Nat → Bool) (x15 x16 x17 x18 x19 x7 x8 : Value) (g b7 b8 : Nat) (W : World) : Prop where
  st : St w0 W l0
  sz : lo ≤ W.heap.size
  h0 : D 0 = true → x15 = tabV T a c
  h1 : D 1 = true → x16 = .agg (laneK g T T.zs.length) ∧ RingAt W g T ∧ lo ≤ g ∧ g < W.heap.size
  h2 : D 2 = true → x17 = tabV T a c
  h3 : D 3 = true → x18 = .int .i64 key
  h4 : D 4 = true → x19 = spotV key hn 0
  h5 : D 5 = true → x7 = .pointer (some ⟨b7, 0, none⟩) ∧ lo ≤ b7 ∧ W.heap[b7]? = some (.cells (if D 7 then laneK g T T.zs.length else lz) 78 (0, 0)) ∧ (D 1 = true → b7 ≠ g)
  h6 : D 6 = true → x8 = .pointer (some ⟨b8, 0, none⟩) ∧ lo ≤ b8 ∧ W.heap[b8]? = some (.cells (if D 8 then #[.int .i64 key, .int .i64 hn, .int .i64 0] else #[.int .i64 0, .int .i64 0, .int .i64 0]) 75 (0, 0)) ∧ (D 1 = true → b8 ≠ g)
  h7 : D 7 = true → D 5 = true ∧ D 1 = true
  h8 : D 8 = true → D 6 = true

theorem FI.below {lz : Array Value} {T : Tab} {a : Option Addr} {c : Nat} {key : Int} {hn lo : Nat} {w0 : World} {l0 : List It} {D : Nat → Bool} {x15 x16 x17 x18 x19 x7 x8 : Value} {g b7 b8 : Nat} {W W' : World} (h : FI lz T a c key hn lo w0 l0 D x15 x16 x17 x18 x19 x7 x8 g b7 b8 W) (hb : Below W.heap.size W W') :
    FI lz T a c key hn lo w0 l0 D x15 x16 x17 x18 x19 x7 x8 g b7 b8 W' :=
  ⟨h.st.below hb, Nat.le_trans h.sz hb.size, h.h0, fun e => ⟨(h.h1 e).1, (h.h1 e).2.1.below hb (h.h1 e).2.2.2, (h.h1 e).2.2.1, Nat.lt_of_lt_of_le (h.h1 e).2.2.2 hb.size⟩, h.h2, h.h3, h.h4,
   fun e => ⟨(h.h5 e).1, (h.h5 e).2.1, (hb.block _ (Array.getElem?_eq_some_iff.1 (h.h5 e).2.2.1).1).trans (h.h5 e).2.2.1, (h.h5 e).2.2.2⟩,
   fun e => ⟨(h.h6 e).1, (h.h6 e).2.1, (hb.block _ (Array.getElem?_eq_some_iff.1 (h.h6 e).2.2.1).1).trans (h.h6 e).2.2.1, (h.h6 e).2.2.2⟩, h.h7, h.h8⟩

theorem FI.s0 {lz : Array Value} {T : Tab} {a : Option Addr} {c : Nat} {key : Int} {hn lo : Nat} {w0 : World} {l0 : List It} {D D' : Nat → Bool} {x15 x16 x17 x18 x19 x7 x8 : Value} {g b7 b8 : Nat} {W : World} (h : FI lz T a c key hn lo w0 l0 D x15 x16 x17 x18 x19 x7 x8 g b7 b8 W) (he : ∀ j, j ≠ 0 → D' j = D j) : FI lz T a c key hn lo w0 l0 D' (tabV T a c) x16 x17 x18 x19 x7 x8 g b7 b8 W := by
  have e1 := he 1 (by decide)
  have e2 := he 2 (by decide)
  have e3 := he 3 (by decide)
  have e4 := he 4 (by decide)
  have e5 := he 5 (by decide)
  have e6 := he 6 (by decide)
  have e7 := he 7 (by decide)
  have e8 := he 8 (by decide)
  exact ⟨h.st, h.sz, fun _ => rfl, by rw [e1]; exact h.h1, by rw [e2]; exact h.h2, by rw [e3]; exact h.h3, by rw [e4]; exact h.h4, by rw [e5, e7, e1]; exact h.h5, by rw [e6, e8, e1]; exact h.h6, by rw [e7, e5, e1]; exact h.h7, by rw [e8, e6]; exact h.h8⟩
theorem FI.s2 {lz : Array Value} {T : Tab} {a : Option Addr} {c : Nat} {key : Int} {hn lo : Nat} {w0 : World} {l0 : List It} {D D' : Nat → Bool} {x15 x16 x17 x18 x19 x7 x8 : Value} {g b7 b8 : Nat} {W : World} (h : FI lz T a c key hn lo w0 l0 D x15 x16 x17 x18 x19 x7 x8 g b7 b8 W) (he : ∀ j, j ≠ 2 → D' j = D j) : FI lz T a c key hn lo w0 l0 D' x15 x16 (tabV T a c) x18 x19 x7 x8 g b7 b8 W := by
  have e0 := he 0 (by decide)
  have e1 := he 1 (by decide)
  have e3 := he 3 (by decide)
  have e4 := he 4 (by decide)
  have e5 := he 5 (by decide)
  have e6 := he 6 (by decide)
  have e7 := he 7 (by decide)
  have e8 := he 8 (by decide)
  exact ⟨h.st, h.sz, by rw [e0]; exact h.h0, by rw [e1]; exact h.h1, fun _ => rfl, by rw [e3]; exact h.h3, by rw [e4]; exact h.h4, by rw [e5, e7, e1]; exact h.h5, by rw [e6, e8, e1]; exact h.h6, by rw [e7, e5, e1]; exact h.h7, by rw [e8, e6]; exact h.h8⟩
theorem FI.s3 {lz : Array Value} {T : Tab} {a : Option Addr} {c : Nat} {key : Int} {hn lo : Nat} {w0 : World} {l0 : List It} {D D' : Nat → Bool} {x15 x16 x17 x18 x19 x7 x8 : Value} {g b7 b8 : Nat} {W : World} (h : FI lz T a c key hn lo w0 l0 D x15 x16 x17 x18 x19 x7 x8 g b7 b8 W) (he : ∀ j, j ≠ 3 → D' j = D j) : FI lz T a c key hn lo w0 l0 D' x15 x16 x17 (.int .i64 key) x19 x7 x8 g b7 b8 W := by
  have e0 := he 0 (by decide)
  have e1 := he 1 (by decide)
  have e2 := he 2 (by decide)
  have e4 := he 4 (by decide)
  have e5 := he 5 (by decide)
  have e6 := he 6 (by decide)
  have e7 := he 7 (by decide)
  have e8 := he 8 (by decide)
  exact ⟨h.st, h.sz, by rw [e0]; exact h.h0, by rw [e1]; exact h.h1, by rw [e2]; exact h.h2, fun _ => rfl, by rw [e4]; exact h.h4, by rw [e5, e7, e1]; exact h.h5, by rw [e6, e8, e1]; exact h.h6, by rw [e7, e5, e1]; exact h.h7, by rw [e8, e6]; exact h.h8⟩
theorem FI.s4 {lz : Array Value} {T : Tab} {a : Option Addr} {c : Nat} {key : Int} {hn lo : Nat} {w0 : World} {l0 : List It} {D D' : Nat → Bool} {x15 x16 x17 x18 x19 x7 x8 : Value} {g b7 b8 : Nat} {W : World} (h : FI lz T a c key hn lo w0 l0 D x15 x16 x17 x18 x19 x7 x8 g b7 b8 W) (he : ∀ j, j ≠ 4 → D' j = D j) : FI lz T a c key hn lo w0 l0 D' x15 x16 x17 x18 (spotV key hn 0) x7 x8 g b7 b8 W := by
  have e0 := he 0 (by decide)
  have e1 := he 1 (by decide)
  have e2 := he 2 (by decide)
  have e3 := he 3 (by decide)
  have e5 := he 5 (by decide)
  have e6 := he 6 (by decide)
  have e7 := he 7 (by decide)
  have e8 := he 8 (by decide)
  exact ⟨h.st, h.sz, by rw [e0]; exact h.h0, by rw [e1]; exact h.h1, by rw [e2]; exact h.h2, by rw [e3]; exact h.h3, fun _ => rfl, by rw [e5, e7, e1]; exact h.h5, by rw [e6, e8, e1]; exact h.h6, by rw [e7, e5, e1]; exact h.h7, by rw [e8, e6]; exact h.h8⟩
theorem FI.s1 {lz : Array Value} {T : Tab} {a : Option Addr} {c : Nat} {key : Int} {hn lo : Nat} {w0 : World} {l0 : List It} {D D' : Nat → Bool} {x15 x16 x17 x18 x19 x7 x8 : Value} {g b7 b8 : Nat} {W : World} {g' : Nat} (h : FI lz T a c key hn lo w0 l0 D x15 x16 x17 x18 x19 x7 x8 g b7 b8 W) (he : ∀ j, j ≠ 1 → D' j = D j) (hu : D 1 = false) (hR : RingAt W g' T) (hlo : lo ≤ g') (hg : g' < W.heap.size) (hb7 : D 5 = true → b7 ≠ g') (hb8 : D 6 = true → b8 ≠ g') : FI lz T a c key hn lo w0 l0 D' x15 (.agg (laneK g' T T.zs.length)) x17 x18 x19 x7 x8 g' b7 b8 W := by
  have e0 := he 0 (by decide)
  have e2 := he 2 (by decide)
  have e3 := he 3 (by decide)
  have e4 := he 4 (by decide)
  have e5 := he 5 (by decide)
  have e6 := he 6 (by decide)
  have e7 := he 7 (by decide)
  have e8 := he 8 (by decide)
  have hn7 : D 7 = false := by
    cases hd : D 7
    · rfl
    · rw [(h.h7 hd).2] at hu; cases hu
  refine ⟨h.st, h.sz, ?_, ?_, ?_, ?_, ?_, ?_, ?_, ?_, ?_⟩
  · rw [e0]; exact h.h0
  · intro _; exact ⟨rfl, hR, hlo, hg⟩
  · rw [e2]; exact h.h2
  · rw [e3]; exact h.h3
  · rw [e4]; exact h.h4
  · rw [e5, e7, hn7]
    clear e7
    intro d
    have q := h.h5 d
    have q3 := q.2.2.1
    rw [hn7, if_neg (by simp)] at q3
    refine ⟨q.1, q.2.1, ?_, fun _ => hb7 d⟩
    rw [if_neg (by simp)]
    exact q3
  · rw [e6, e8]
    intro d
    have q := h.h6 d
    exact ⟨q.1, q.2.1, q.2.2.1, fun _ => hb8 d⟩
  · intro d
    rw [e7, hn7] at d; cases d
  · rw [e8, e6]; exact h.h8
theorem FI.s5 {lz : Array Value} {T : Tab} {a : Option Addr} {c : Nat} {key : Int} {hn lo : Nat} {w0 : World} {l0 : List It} {D D' : Nat → Bool} {x15 x16 x17 x18 x19 x7 x8 : Value} {g b7 b8 : Nat} {W : World} (h : FI lz T a c key hn lo w0 l0 D x15 x16 x17 x18 x19 x7 x8 g b7 b8 W) (he : ∀ j, j ≠ 5 → D' j = D j) (hu : D 5 = false) : FI lz T a c key hn lo w0 l0 D' x15 x16 x17 x18 x19 (.pointer (some ⟨W.heap.size, 0, none⟩)) x8 g W.heap.size b8 (W.alloc (.cells lz 78)) := by
  have e0 := he 0 (by decide)
  have e1 := he 1 (by decide)
  have e2 := he 2 (by decide)
  have e3 := he 3 (by decide)
  have e4 := he 4 (by decide)
  have e6 := he 6 (by decide)
  have e7 := he 7 (by decide)
  have e8 := he 8 (by decide)
  have hn7 : D 7 = false := by
    cases hd : D 7
    · rfl
    · rw [(h.h7 hd).1] at hu; cases hu
  have h' := h.below ((Below.refl _ W).alloc (Nat.le_refl _) (.cells lz 78))
  exact ⟨h'.st, h'.sz, by rw [e0]; exact h'.h0, by rw [e1]; exact h'.h1, by rw [e2]; exact h'.h2, by rw [e3]; exact h'.h3, by rw [e4]; exact h'.h4, fun _ => ⟨rfl, h.sz, by rw [e7, hn7, if_neg (by simp)]; exact heap_alloc_new W _, fun d => by have := (h.h1 (by rw [← e1]; exact d)).2.2.2; omega⟩, by rw [e6, e8, e1]; exact h'.h6, fun d => (by rw [e7, hn7] at d; cases d), by rw [e8, e6]; exact h'.h8⟩
theorem FI.s6 {lz : Array Value} {T : Tab} {a : Option Addr} {c : Nat} {key : Int} {hn lo : Nat} {w0 : World} {l0 : List It} {D D' : Nat → Bool} {x15 x16 x17 x18 x19 x7 x8 : Value} {g b7 b8 : Nat} {W : World} (h : FI lz T a c key hn lo w0 l0 D x15 x16 x17 x18 x19 x7 x8 g b7 b8 W) (he : ∀ j, j ≠ 6 → D' j = D j) (hu : D 6 = false) : FI lz T a c key hn lo w0 l0 D' x15 x16 x17 x18 x19 x7 (.pointer (some ⟨W.heap.size, 0, none⟩)) g b7 W.heap.size (W.alloc (.cells #[.int .i64 0, .int .i64 0, .int .i64 0] 75)) := by
  have e0 := he 0 (by decide)
  have e1 := he 1 (by decide)
  have e2 := he 2 (by decide)
  have e3 := he 3 (by decide)
  have e4 := he 4 (by decide)
  have e5 := he 5 (by decide)
  have e7 := he 7 (by decide)
  have e8 := he 8 (by decide)
  have hn8 : D 8 = false := by
    cases hd : D 8
    · rfl
    · rw [h.h8 hd] at hu; cases hu
  have h' := h.below ((Below.refl _ W).alloc (Nat.le_refl _) (.cells #[.int .i64 0, .int .i64 0, .int .i64 0] 75))
  exact ⟨h'.st, h'.sz, by rw [e0]; exact h'.h0, by rw [e1]; exact h'.h1, by rw [e2]; exact h'.h2, by rw [e3]; exact h'.h3, by rw [e4]; exact h'.h4, by rw [e5, e7, e1]; exact h'.h5, fun _ => ⟨rfl, h.sz, by rw [e8, hn8, if_neg (by simp)]; exact heap_alloc_new W _, fun d => by have := (h.h1 (by rw [← e1]; exact d)).2.2.2; omega⟩, by rw [e7, e5, e1]; exact h'.h7, fun d => (by rw [e8, hn8] at d; cases d)⟩
theorem FI.s7 {lz : Array Value} {T : Tab} {a : Option Addr} {c : Nat} {key : Int} {hn lo : Nat} {w0 : World} {l0 : List It} {D D' : Nat → Bool} {x15 x16 x17 x18 x19 x7 x8 : Value} {g b7 b8 : Nat} {W : World} (h : FI lz T a c key hn lo w0 l0 D x15 x16 x17 x18 x19 x7 x8 g b7 b8 W) (hi : D' 7 = true) (he : ∀ j, j ≠ 7 → D' j = D j) (d5 : D 5 = true) (d1 : D 1 = true) (hw : w0.heap.size ≤ lo) (hl : ∀ i ∈ l0, i.hi ≤ lo) : FI lz T a c key hn lo w0 l0 D' x15 x16 x17 x18 x19 x7 x8 g b7 b8 (W.setRow b7 (laneK g T T.zs.length)) := by
  have e0 := he 0 (by decide)
  have e1 := he 1 (by decide)
  have e2 := he 2 (by decide)
  have e3 := he 3 (by decide)
  have e4 := he 4 (by decide)
  have e5 := he 5 (by decide)
  have e6 := he 6 (by decide)
  have e8 := he 8 (by decide)
  have hz : (W.setRow b7 (laneK g T T.zs.length)).heap.size = W.heap.size := by simp [World.setRow]
  have hlo := (h.h5 d5).2.1
  have hk : ∀ k, k ≠ b7 → (W.setRow b7 (laneK g T T.zs.length)).heap[k]? = W.heap[k]? := fun k hk => by
    have : b7 ≠ k := Ne.symm hk
    simp [World.setRow, Array.getElem?_modify, this]
  have hne : D 6 = true → b8 ≠ b7 := fun d e => by
    have q1 := (h.h5 d5).2.2.1
    have q2 := (h.h6 d).2.2.1
    rw [e, q1] at q2
    simp at q2
  exact ⟨h.st.grown2 (grownBy_setRow W b7 (laneK g T T.zs.length)) (fun k e => by cases e; exact ⟨Nat.le_trans hw hlo, fun i hi => .inr (Nat.le_trans (hl i hi) hlo)⟩), by rw [hz]; exact h.sz, by rw [e0]; exact h.h0, by rw [e1]; exact fun d => ⟨(h.h1 d).1, ring_setRow (h.h1 d).2.1 ((h.h5 d5).2.2.2 d) _, (h.h1 d).2.2.1, by rw [hz]; exact (h.h1 d).2.2.2⟩, by rw [e2]; exact h.h2, by rw [e3]; exact h.h3, by rw [e4]; exact h.h4, fun d => ⟨(h.h5 d5).1, (h.h5 d5).2.1, by rw [hi, if_pos rfl]; exact heap_setRow (h.h5 d5).2.2.1, by rw [e1]; exact (h.h5 d5).2.2.2⟩, by rw [e6, e8, e1]; exact fun d => ⟨(h.h6 d).1, (h.h6 d).2.1, (hk _ (hne d)).trans (h.h6 d).2.2.1, (h.h6 d).2.2.2⟩, fun _ => ⟨by rw [e5]; exact d5, by rw [e1]; exact d1⟩, by rw [e8, e6]; exact h.h8⟩
theorem FI.s8 {lz : Array Value} {T : Tab} {a : Option Addr} {c : Nat} {key : Int} {hn lo : Nat} {w0 : World} {l0 : List It} {D D' : Nat → Bool} {x15 x16 x17 x18 x19 x7 x8 : Value} {g b7 b8 : Nat} {W : World} (h : FI lz T a c key hn lo w0 l0 D x15 x16 x17 x18 x19 x7 x8 g b7 b8 W) (hi : D' 8 = true) (he : ∀ j, j ≠ 8 → D' j = D j) (d6 : D 6 = true) (hw : w0.heap.size ≤ lo) (hl : ∀ i ∈ l0, i.hi ≤ lo) : FI lz T a c key hn lo w0 l0 D' x15 x16 x17 x18 x19 x7 x8 g b7 b8 (W.setRow b8 #[.int .i64 key, .int .i64 hn, .int .i64 0]) := by
  have e0 := he 0 (by decide)
  have e1 := he 1 (by decide)
  have e2 := he 2 (by decide)
  have e3 := he 3 (by decide)
  have e4 := he 4 (by decide)
  have e5 := he 5 (by decide)
  have e6 := he 6 (by decide)
  have e7 := he 7 (by decide)
  have hz : (W.setRow b8 #[.int .i64 key, .int .i64 hn, .int .i64 0]).heap.size = W.heap.size := by simp [World.setRow]
  have hlo := (h.h6 d6).2.1
  have hk : ∀ k, k ≠ b8 → (W.setRow b8 #[.int .i64 key, .int .i64 hn, .int .i64 0]).heap[k]? = W.heap[k]? := fun k hk => by
    have : b8 ≠ k := Ne.symm hk
    simp [World.setRow, Array.getElem?_modify, this]
  have hne : D 5 = true → b7 ≠ b8 := fun d e => by
    have q1 := (h.h6 d6).2.2.1
    have q2 := (h.h5 d).2.2.1
    rw [e, q1] at q2
    simp at q2
  exact ⟨h.st.grown2 (grownBy_setRow W b8 #[.int .i64 key, .int .i64 hn, .int .i64 0]) (fun k e => by cases e; exact ⟨Nat.le_trans hw hlo, fun i hi => .inr (Nat.le_trans (hl i hi) hlo)⟩), by rw [hz]; exact h.sz, by rw [e0]; exact h.h0, by rw [e1]; exact fun d => ⟨(h.h1 d).1, ring_setRow (h.h1 d).2.1 ((h.h6 d6).2.2.2 d) _, (h.h1 d).2.2.1, by rw [hz]; exact (h.h1 d).2.2.2⟩, by rw [e2]; exact h.h2, by rw [e3]; exact h.h3, by rw [e4]; exact h.h4, by rw [e5, e7, e1]; exact fun d => ⟨(h.h5 d).1, (h.h5 d).2.1, (hk _ (hne d)).trans (h.h5 d).2.2.1, (h.h5 d).2.2.2⟩, fun d => ⟨(h.h6 d6).1, (h.h6 d6).2.1, by rw [hi, if_pos rfl]; exact heap_setRow (h.h6 d6).2.2.1, by rw [e1]; exact (h.h6 d6).2.2.2⟩, by rw [e7, e5, e1]; exact h.h7, fun _ => (by rw [e6]; exact d6)⟩

theorem alloc_run {P : Program} {o : Oper} {A : Act} {w : World} (ty : TypeId) (ho : o.op = Op.alloc ty) (z : Array Value) (hz : ∀ w, (zeroValue ty).run P w = .ok (.agg z) w) : (execOp A.eval o).run P w = .ok (.value (.pointer (some ⟨w.heap.size, 0, none⟩))) (w.alloc (.cells z ty)) := by
  simp [execOp, ho, Instr.alloc, hz, Result.andThen, newVar, newRow, Value.cells, go_sem]
theorem store_run {P : Program} {o : Oper} {A : Act} {w : World} (p v : Operand) (ty : TypeId) (ho : o.op = Op.store ty p v) (b : Nat) (t : TypeId) (old cells : Array Value)
    (hp : A.eval p = .pointer (some ⟨b, 0, none⟩)) (hv : A.eval v = .agg cells) (hg : w.heap[b]? = some (.cells old t (0, 0))) (hi : (P.info? ty).map (·.size) = some cells.size)
    (hs : old.size = cells.size) (h1 : cells.all (·.oneCell') = true) : (execOp A.eval o).run P w = .ok .skip (w.setRow b cells) := by
  simp [execOp, ho, hp, hv, Instr.storeAt, Instr.sureAddr, run_storeVar_row (P := P) w b t ty old cells hg hi hs h1, Result.andThen]

/-- A row without its first element. -/
theorem own_tail {W : World} {lo g c : Nat} {x : Int} {L : List Int} (h : OwnInts W lo (some ⟨g, 0, none⟩) (x :: L)) (hc : L.length + 1 ≤ c) : OwnInts W lo (if c = 1 then some ⟨g, 0, none⟩ else some ⟨g, 1, none⟩) L := by
  have hb := h.1 _ rfl
  obtain ⟨b, o, e, h1, h2⟩ := h.2 (by simp)
  cases e
  by_cases e : c = 1
  · rw [if_pos e]
    have : L = [] := List.eq_nil_of_length_eq_zero (by omega)
    subst this
    exact ⟨fun p hp => by cases hp; exact hb, fun h => by simp at h⟩
  · rw [if_neg e]
    refine ⟨fun p hp => by cases hp; exact hb, fun _ => ⟨g, 1, rfl, fun j hj => ?_, fun j hj => ?_⟩⟩
    · have := h1 (j + 1) (by simp; omega)
      rw [show 0 + (j + 1) = 1 + j by omega] at this
      simpa using this
    · have := h2 (j + 1) (by simp; omega)
      rwa [show 0 + (j + 1) = 1 + j by omega] at this

/-- The world as it was when it had so many blocks. -/
def cutW (W : World) (B : Nat) : World := { W with heap := W.heap.extract 0 B }
theorem cutW_size {W : World} {B : Nat} (h : B ≤ W.heap.size) : (cutW W B).heap.size = B := by simp [cutW]; omega
theorem cutW_at {W : World} {B k : Nat} (hk : k < B) : (cutW W B).heap[k]? = W.heap[k]? := by
  simp only [cutW, Array.getElem?_extract]
  by_cases h : k < W.heap.size
  · rw [if_pos (by omega)]; simp
  · rw [if_neg (by omega), Array.getElem?_eq_none (by omega)]
theorem cutW_below {W : World} {B : Nat} (h : B ≤ W.heap.size) : Below B (cutW W B) W := ⟨rfl, rfl, rfl, by rw [cutW_size h]; exact h, fun k hk => (cutW_at hk).symm⟩

set_option maxRecDepth 100000 in
set_option maxHeartbeats 4000000 in
theorem putFairly_any (T : Tab) (a : Option Addr) (c : Nat) (key : Int) (w : World) (hx : T.zs.length ≤ 9223372036854775807) (h1 : IntsAt w a T.zs) (hL : Laid w) :
    Calls Tryz.prog 51 #[tabV T a c, .int .i64 key] w (PutFRes (fputT T key) (fswaps T key) (fputOk T key) w) := by
  have S0 := (((St.start w).read h1).alloc #[.int .i64 T.t, .int .i64 T.p, .slice a T.zs.length c] 25).alloc #[.int .i64 0, .int .i64 0, .slice none 0 0] 25
  rw [World.size_alloc] at S0
  have hL0 := hL.below S0.old hL.pos
  have HP : Hid (fputT T key = if fputOk T key then tab T (fputZ T key) else ⟨0, 0, []⟩) := Lib.hid rfl
  have HW : Hid (fswaps T key = if fputOk T key then fputL T key else []) := Lib.hid rfl
  have HCP := Lib.hid fun (W : World) (h : IntsAt W a T.zs) (hl : Laid W) => canPutFairly_any T a c key W hx h hl
  cases ho : fputOk T key
  · rw [ho] at HP HW HCP
    go_enter Tryz.func51, Tryz.ntmps51
    go_wp2_with fail
    refine (HCP.out _ (by exact S0.reads 2 rfl) hL0).mono ?_
    rintro e w1 ⟨rfl, hb⟩
    have S1 := S0.below hb
    clear S0 hb hL0
    obtain ⟨x0, x1, x2, x3, x4, x5, xz⟩ := facts3 (S1.cells 0 rfl)
    go_wp2
    refine bodyPost_ret (v := .tuple #[tbl 0 0 none 0 0, .slice none 0 0, .bool false]) (by simp [results, Tryz.results51, go_sem, x0, x1, x2, x3, x4, x5]) rfl ?_
    rw [HP.out, HW.out]
    exact ⟨none, 0, none, 0, rfl, OwnInts.nil _ _, OwnInts.nil _ _, set3 S1.old (Nat.le_succ _) (.int .i64 0) (.int .i64 0) (.slice none 0 0)⟩
  · have FS := fput_says ho
    rw [ho] at HP HW HCP
    obtain ⟨⟨l1, l2⟩, _⟩ := valid_facts FS.val
    refine (callsIn_wide (n := 9)).1 ?_
    refine callsIn_of_wp Tryz.func51 rfl trivial ?_ rfl
    simp only [Tryz.ntmps51, List.size_toArray, List.length_cons, List.length_nil, Nat.reduceAdd, Nat.reduceSub, Array.replicate_succ, Array.replicate_zero, List.push_toArray, List.append_toArray, List.nil_append, List.cons_append]
    gi_wp2_with fail
    refine ⟨trivial, (callsIn_wide.2 (HCP.out _ (by exact S0.reads 2 rfl) hL0)).mono ?_⟩
    rintro e w1 ⟨rfl, hb⟩
    have z1 : w.heap.size + 2 ≤ w1.heap.size := by have := hb.size; simpa using this
    have S1 := S0.below hb
    clear S0 hb hL0
    gi_wp2_with fail
    have hmix : Tryz.prog.follows .mixedOrders = true := by kernel_rfl
    have HST := Lib.hid fun (W' : World) (h : IntsAt W' a T.zs) => startOf_any T a c key W' FS.val FS.key0.1 FS.key0.2 h
    obtain ⟨hn, HN⟩ : ∃ hn, homeN T key = hn := ⟨_, rfl⟩
    rw [HN] at HST
    refine wpIn_region_inv' (l := [_, _, _, _, _, _, _, _, _]) hmix (by kernel_rfl) (by kernel_rfl) (fun D A W => ∃ (x15 x16 x17 x18 x19 x7 x8 : Value) (g b7 b8 : Nat),
      A = { tmps := #[tabV T a c, .int .i64 key, .pointer (some ⟨w.heap.size, 0, none⟩), undef, .pointer (some ⟨w.heap.size + 1, 0, none⟩), .slice none 0 0, .bool false, x7, x8, undef, .agg #[.int .i64 T.t, .int .i64 T.p, .slice a T.zs.length c], .int .i64 key, .bool true, .bool false, undef, x15, x16, x17, x18, x19, undef, undef, undef, undef, undef, undef, undef, undef, undef, undef, undef, undef, undef, undef], defers := [] } ∧
      FI laneZ T a c key hn w1.heap.size w [It.box (w.heap.size + 1) #[.int .i64 0, .int .i64 0, .slice none 0 0] 25, It.box w.heap.size #[.int .i64 T.t, .int .i64 T.p, .slice a T.zs.length c] 25, It.read w.heap.size a T.zs] D x15 x16 x17 x18 x19 x7 x8 g b7 b8 W) ?step ?done ?start
    case start =>
      exact ⟨undef, undef, undef, undef, undef, undef, undef, 0, 0, 0, rfl, S1.drew, Nat.le_refl _, by simp, by simp, by simp, by simp, by simp, by simp, by simp, by simp, by simp⟩
    case step =>
      rintro i o D D' A W hi hDi hDo hun hdep ⟨x15, x16, x17, x18, x19, x7, x8, g, b7, b8, rfl, hF⟩
      have hi9 : i < 9 := (List.getElem?_eq_some_iff.1 hi).1
      obtain ⟨y0, y1, y2, y3, y4, y5, yz⟩ := facts3 (hF.st.cells 1 rfl)
      rcases (by omega : i = 0 ∨ i = 1 ∨ i = 2 ∨ i = 3 ∨ i = 4 ∨ i = 5 ∨ i = 6 ∨ i = 7 ∨ i = 8) with rfl | rfl | rfl | rfl | rfl | rfl | rfl | rfl | rfl
      all_goals cases hi
      case inl =>
        go_simp
        exact ⟨_, _, _, _, _, _, _, ⟨rfl, rfl, rfl, rfl, rfl, rfl, rfl⟩, g, b7, b8, hF.s0 hDo⟩
      case inr.inl =>
        have q := hF.h0 (hdep ⟨0, .data⟩ (by simp) rfl)
        subst q
        have HLA := laneOf_any T a c W (by exact hF.st.reads 2 rfl) FS.val
        go_simp
        refine ⟨trivial, (callsIn_wide.2 HLA).mono ?_⟩
        rintro e w2 ⟨g', rfl, hR, hg, hgo, hb⟩
        have hF2 := hF.below hb
        exact ⟨_, _, _, _, _, _, _, ⟨rfl, rfl, rfl, rfl, rfl, rfl, rfl⟩, g', b7, b8, hF2.s1 hDo hun hR (Nat.le_trans hF.sz hgo) hg (fun d => by have := (Array.getElem?_eq_some_iff.1 (hF.h5 d).2.2.1).1; omega) (fun d => by have := (Array.getElem?_eq_some_iff.1 (hF.h6 d).2.2.1).1; omega)⟩
      case inr.inr.inl =>
        go_simp
        exact ⟨_, _, _, _, _, _, _, ⟨rfl, rfl, rfl, rfl, rfl, rfl, rfl⟩, g, b7, b8, hF.s2 hDo⟩
      case inr.inr.inr.inl =>
        go_simp
        exact ⟨_, _, _, _, _, _, _, ⟨rfl, rfl, rfl, rfl, rfl, rfl, rfl⟩, g, b7, b8, hF.s3 hDo⟩
      case inr.inr.inr.inr.inl =>
        have q := hF.h2 (hdep ⟨2, .data⟩ (by simp) rfl)
        have q3 := hF.h3 (hdep ⟨3, .data⟩ (by simp) rfl)
        subst q q3
        have HS := HST.out W (by exact hF.st.reads 2 rfl)
        go_simp
        refine ⟨trivial, (callsIn_wide.2 HS).mono ?_⟩
        rintro e w2 ⟨rfl, hb⟩
        exact ⟨_, _, _, _, _, _, _, ⟨rfl, rfl, rfl, rfl, rfl, rfl, rfl⟩, g, b7, b8, (hF.below hb).s4 hDo⟩
      case inr.inr.inr.inr.inr.inl =>
        refine wpIn_val (fun c e => by cases e) rfl (.pointer (some ⟨W.heap.size, 0, none⟩)) (W.alloc (.cells laneZ 78)) (alloc_run 78 rfl laneZ laneZero) ?_
        exact ⟨_, _, _, _, _, _, _, g, _, b8, rfl, hF.s5 hDo hun⟩
      case inr.inr.inr.inr.inr.inr.inl =>
        refine wpIn_val (fun c e => by cases e) rfl (.pointer (some ⟨W.heap.size, 0, none⟩)) (W.alloc (.cells #[.int .i64 0, .int .i64 0, .int .i64 0] 75)) (alloc_run 75 rfl _ (fun w => by kernel_rfl)) ?_
        exact ⟨_, _, _, _, _, _, _, g, b7, _, rfl, hF.s6 hDo hun⟩
      case inr.inr.inr.inr.inr.inr.inr.inl =>
        have d5 := hdep ⟨5, .data⟩ (by simp) rfl
        have q1 := (hF.h1 (hdep ⟨1, .data⟩ (by simp) rfl)).1
        have q7 := (hF.h5 d5).1
        have hb := (hF.h5 d5).2.2.1
        rw [hun, if_neg (by simp)] at hb
        subst q1 q7
        refine wpIn_skp (fun c e => by cases e) rfl (W.setRow b7 (laneK g T T.zs.length)) ?_ ?_
        · exact store_run (.tmp 7) (.tmp 16) 78 rfl b7 78 laneZ (laneK g T T.zs.length) rfl rfl hb (by rw [laneSize, laneK_size]) (by rw [laneZ_size, laneK_size]) (laneK_one g T T.zs.length)
        · exact ⟨_, _, _, _, _, _, _, g, b7, b8, rfl, hF.s7 hDi hDo d5 (hdep ⟨1, .data⟩ (by simp) rfl) (by omega) (fun i hi => by
            simp only [List.mem_cons, List.not_mem_nil, or_false] at hi
            rcases hi with rfl | rfl | rfl <;> simp [It.box, It.read] <;> omega)⟩
      case inr.inr.inr.inr.inr.inr.inr.inr =>
        have d6 := hdep ⟨6, .data⟩ (by simp) rfl
        have q4 := hF.h4 (hdep ⟨4, .data⟩ (by simp) rfl)
        have q8 := (hF.h6 d6).1
        have hb := (hF.h6 d6).2.2.1
        rw [hun, if_neg (by simp)] at hb
        subst q4 q8
        refine wpIn_skp (fun c e => by cases e) rfl (W.setRow b8 #[.int .i64 key, .int .i64 hn, .int .i64 0]) ?_ ?_
        · exact store_run (.tmp 8) (.tmp 19) 75 rfl b8 75 #[.int .i64 0, .int .i64 0, .int .i64 0] #[.int .i64 key, .int .i64 hn, .int .i64 0] rfl rfl hb (by kernel_rfl) rfl (by simp [Value.oneCell'])
        · exact ⟨_, _, _, _, _, _, _, g, b7, b8, rfl, hF.s8 hDi hDo d6 (by omega) (fun i hi => by
            simp only [List.mem_cons, List.not_mem_nil, or_false] at hi
            rcases hi with rfl | rfl | rfl <;> simp [It.box, It.read] <;> omega)⟩
    case done =>
      rintro D A W hall ⟨x15, x16, x17, x18, x19, x7, x8, g, b7, b8, rfl, hF⟩
      have q15 := hF.h0 (hall 0 (by decide))
      obtain ⟨q16, hR, hgo, hg⟩ := hF.h1 (hall 1 (by decide))
      have q17 := hF.h2 (hall 2 (by decide))
      have q18 := hF.h3 (hall 3 (by decide))
      have q19 := hF.h4 (hall 4 (by decide))
      obtain ⟨q7, hb7, hc7, hn7⟩ := hF.h5 (hall 5 (by decide))
      obtain ⟨q8, hb8, hc8, hn8⟩ := hF.h6 (hall 6 (by decide))
      rw [hall 7 (by decide), if_pos rfl] at hc7
      rw [hall 8 (by decide), if_pos rfl] at hc8
      subst q15 q16 q17 q18 q19 q7 q8
      have S2 := hF.st
      have z2 := hF.sz
      clear hF hall S1
      obtain ⟨y0, y1, y2, y3, y4, y5, yz⟩ := facts3 (S2.cells 1 rfl)
      gi_wp2_with fail
      refine ⟨trivial, (callsIn_wide.2 (cloneN_any T.zs a c W l1 l2 (by exact S2.reads 2 rfl))).mono ?_⟩
      rintro e w3 ⟨ga, cap, rfl, ho3, hb3⟩
      have S3 := S2.below hb3
      have z3 := hb3.size
      have hga := ho3.1 _ rfl
      simp only at hga
      have hR3 := hR.below hb3 hg
      have hc73 : w3.heap[b7]? = some (.cells (laneK g T T.zs.length) 78 (0, 0)) := (hb3.block b7 (Array.getElem?_eq_some_iff.1 hc7).1).trans hc7
      have hc83 : w3.heap[b8]? = some (.cells #[.int .i64 key, .int .i64 hn, .int .i64 0] 75 (0, 0)) := (hb3.block b8 (Array.getElem?_eq_some_iff.1 hc8).1).trans hc8
      have h7s := (Array.getElem?_eq_some_iff.1 hc7).1
      have h8s := (Array.getElem?_eq_some_iff.1 hc8).1
      clear S2 hR hc7 hc8 hb3 y0 y1 y2 y3 y4 y5 yz
      obtain ⟨y0, y1, y2, y3, y4, y5, yz⟩ := facts3 (S3.cells 1 rfl)
      have z0 : w.heap.size + 2 ≤ w3.heap.size := by omega
      have S4 := (S3.setBoxAt 1 rfl 2 (.slice (some ⟨ga, 0, none⟩) T.zs.length cap) (setCell_three2 (S3.cells 1 rfl) _) (by simp [Far, It.box, It.read]) (by omega)).alloc #[.slice none 0 0] 23
      simp only [List.set_cons_zero, List.set_cons_succ] at S4
      have ho4 := (ho3.setOther (p := ⟨w.heap.size, 2, none⟩) (by simp only; omega) (.slice (some ⟨ga, 0, none⟩) T.zs.length cap)).below ((Below.refl _ _).alloc (Nat.le_refl _) (.cells #[.slice none 0 0] 23))
      have hk4 : ∀ k, k < w3.heap.size → k ≠ w.heap.size → ((w3.setCell ⟨w.heap.size, 2, none⟩ (.slice (some ⟨ga, 0, none⟩) T.zs.length cap)).alloc (.cells #[.slice none 0 0] 23)).heap[k]? = w3.heap[k]? := fun k h1 h2 =>
        (Below.heap_alloc _ _ _ (by simpa [World.setCell] using h1)).trans (Below.heap_setCell _ _ _ _ (by simpa using h2))
      have hc74 := (hk4 b7 (by omega) (by omega)).trans hc73
      have hc84 := (hk4 b8 (by omega) (by omega)).trans hc83
      have hR4 : RingAt ((w3.setCell ⟨w.heap.size, 2, none⟩ (.slice (some ⟨ga, 0, none⟩) T.zs.length cap)).alloc (.cells #[.slice none 0 0] 23)) g T := fun i hi => ⟨(World.cell?_of_block (hk4 g (by omega) (by omega))).trans (hR3 i hi).1, (World.cell?_of_block (hk4 g (by omega) (by omega))).trans (hR3 i hi).2⟩
      have hz4 : (w3.setCell ⟨w.heap.size, 2, none⟩ (.slice (some ⟨ga, 0, none⟩) T.zs.length cap)).heap.size = w3.heap.size := by simp [World.setCell]
      rw [hz4] at S4
      have z4 : ((w3.setCell ⟨w.heap.size, 2, none⟩ (.slice (some ⟨ga, 0, none⟩) T.zs.length cap)).alloc (.cells #[.slice none 0 0] 23)).heap.size = w3.heap.size + 1 := by rw [World.size_alloc, hz4]
      have H4 := Lib.hid (And.intro ho4 (And.intro hR4 (And.intro S4 z4)))
      obtain ⟨u0, u1, u2, u3, u4, u5, uz⟩ := facts3 hc84
      clear S3 hR3 hc73 hc83 hk4 ho3 hc84 S4 ho4 hR4 z4
      gi_wp2_with (refine wide_loadIn rfl (.tmp 7) 78 rfl b7 78 (laneK g T T.zs.length) (0, 0) _ rfl hc74 Tryz.underlying78 rfl (by rw [laneSize, laneK_size]) ?_)
      generalize hW4 : (w3.setCell ⟨w.heap.size, 2, none⟩ (.slice (some ⟨ga, 0, none⟩) T.zs.length cap)).alloc (.cells #[.slice none 0 0] 23) = W4 at H4 ⊢
      obtain ⟨ho4, hR4, S4, z4⟩ := H4.out
      clear hW4 H4 hz4 hc74 u0 u1 u2 u3 u4 u5 uz
      have hga4 : ga ≤ W4.heap.size := by omega
      have SC : St (cutW W4 ga) W4 (carIt w.heap.size w3.heap.size ga cap T (w3.heap.size + 1) (w3.heap.size + 1) (.slice none 0 0) (outF T key 0) (setF T key 0) []) := by
        refine ⟨by rw [cutW_size hga4]; exact cutW_below hga4, fun i hi => ?_⟩
        simp only [List.mem_cons, List.not_mem_nil, or_false] at hi
        rcases hi with rfl | rfl | rfl | rfl
        · exact ⟨by show w3.heap.size + 1 ≤ _; omega, World.ownsRow_nil _ _ _ _, fun k hk => by simp [Value.ownBlock] at hk⟩
        · exact S4.all _ (List.mem_cons_self ..)
        · exact ⟨by show ga + 1 ≤ _; omega, ⟨fun p hp => by cases hp; exact ⟨Nat.le_refl _, by show ga < _; omega⟩, ho4.2⟩, fun p hp => by cases hp; exact Nat.lt_succ_self _⟩
        · exact S4.all _ (List.mem_cons_of_mem _ (List.mem_cons_of_mem _ (List.mem_cons_self ..)))
      have hst : stepS T (homeN T key) 0 = hn := by
        have := homeN_lt FS.val key
        rw [HN] at this ⊢
        unfold stepS
        exact Nat.mod_eq_of_lt this
      have CAR := carry_any T g w.heap.size w3.heap.size ga cap key (cutW W4 ga) FS (fun i hi => ⟨(World.cell?_of_block (cutW_at (by show g < ga; omega))).trans (hR4 i hi).1, (World.cell?_of_block (cutW_at (by show g < ga; omega))).trans (hR4 i hi).2⟩) (by rw [cutW_size hga4]; omega) (by rw [cutW_size hga4]; exact Nat.le_refl _) (by omega) (by omega) (endF T key) 0 (Nat.zero_add _) hn (w3.heap.size + 1) (w3.heap.size + 1) (.slice none 0 0) W4 (by omega) (Nat.le_refl _) SC
      rw [hst] at CAR
      refine ⟨trivial, (callsIn_wide.2 CAR).mono ?_⟩
      rintro e w5 ⟨rfl, lo9, hi9, v9, q9, S9⟩
      clear CAR SC
      obtain ⟨y0, y1, y2, y3, y4, y5, yz⟩ := facts3 (S9.cells 3 rfl)
      obtain ⟨g9, cap9, rfl⟩ := ownsRow_more (S9.rows 0 rfl)
      obtain ⟨v0, v1, vz⟩ := facts1 (S9.cells 1 rfl)
      have hres : w5.heap[w.heap.size + 1]? = some (.cells #[.int .i64 0, .int .i64 0, .slice none 0 0] 25 (0, 0)) :=
        ((S9.old.block (w.heap.size + 1) (by rw [cutW_size hga4]; omega)).trans (cutW_at (by omega))).trans (S4.cells 1 rfl)
      obtain ⟨r0, r1, r2, r3, r4, r5, rz⟩ := facts3 hres
      gi_wp2_with fail
      have hcap : 1 ≤ cap9 := by have := ownsRow_cap (S9.rows 0 rfl); simp at this; omega
      have n1 : w.heap.size + 1 ≠ w.heap.size := by omega
      have n2 : w.heap.size + 1 ≠ w3.heap.size := by omega
      refine wpIn_wide.2 ?_
      have hce : (fputL T key).length + 1 ≤ cap9 := by have := ownsRow_cap (S9.rows 0 rfl); simpa using this
      have z5 : W4.heap.size ≤ w5.heap.size := by have : w3.heap.size + 1 ≤ w5.heap.size := S9.sz 1 rfl; omega
      have B5 : Below w.heap.size w w5 := S4.old.trans ⟨S9.old.os, S9.old.tape, S9.old.output, z5, fun k hk => (S9.old.block k (by rw [cutW_size hga4]; omega)).trans (cutW_at (by omega))⟩
      have OT : OwnInts w5 (w.heap.size + 2) (if cap9 = 1 then some ⟨g9, 0, none⟩ else some ⟨g9, 1, none⟩) (fputL T key) := (own_tail (ownsRow_ints (S9.rows 0 rfl)) hce).mono (by omega)
      have OZ : OwnInts w5 ga (some ⟨ga, 0, none⟩) (fputZ T key) := S9.owns 2 rfl
      have HO := Lib.hid (And.intro OZ (And.intro OT B5))
      have hq := setCell_at (setCell_at (setCell_at hres 0 (.int .i64 T.t)) 1 (.int .i64 T.p)) 2 (.slice (some ⟨ga, 0, none⟩) T.zs.length cap)
      have tq := facts3 hq
      have HQ : Hid _ := Lib.hid tq
      clear OZ OT B5 hq tq
      by_cases hc1 : cap9 = 1
      · subst hc1
        rw [if_pos rfl] at HO
        go_region
        obtain ⟨t0, t1, t2, _⟩ := HQ.out
        gi_wp2_with fail
        refine bodyPost_ret (v := .tuple #[.agg #[.int .i64 T.t, .int .i64 T.p, .slice (some ⟨ga, 0, none⟩) T.zs.length cap], .slice (some ⟨g9, 0, none⟩) (fputL T key).length 0, .bool true]) (by simp [results, Tryz.results51, go_sem, t0, t1, t2]; omega) rfl ?_
        rw [HP.out, HW.out]
        obtain ⟨OZ, OT, B5⟩ := HO.out
        exact ⟨some ⟨ga, 0, none⟩, cap, some ⟨g9, 0, none⟩, 0, by simp [tab, fputZ_len], ((((OZ.setOther (p := ⟨w.heap.size + 1, 0, none⟩) (by simp only; omega) _).setOther (p := ⟨w.heap.size + 1, 1, none⟩) (by simp only; omega) _).setOther (p := ⟨w.heap.size + 1, 2, none⟩) (by simp only; omega) _).mono (by omega)).below (Below.refl _ _).drew, ((((OT.setOther (p := ⟨w.heap.size + 1, 0, none⟩) (by simp only; omega) _).setOther (p := ⟨w.heap.size + 1, 1, none⟩) (by simp only; omega) _).setOther (p := ⟨w.heap.size + 1, 2, none⟩) (by simp only; omega) _).mono (by omega)).below (Below.refl _ _).drew, (set3 B5 (Nat.le_succ _) (.int .i64 T.t) (.int .i64 T.p) (.slice (some ⟨ga, 0, none⟩) T.zs.length cap)).drew⟩
      · rw [if_neg hc1] at HO
        go_region
        obtain ⟨t0, t1, t2, _⟩ := HQ.out
        gi_wp2_with fail
        refine bodyPost_ret (v := .tuple #[.agg #[.int .i64 T.t, .int .i64 T.p, .slice (some ⟨ga, 0, none⟩) T.zs.length cap], .slice (some ⟨g9, 1, none⟩) (fputL T key).length (cap9 - 1), .bool true]) (by simp [results, Tryz.results51, go_sem, t0, t1, t2]) rfl ?_
        rw [HP.out, HW.out]
        obtain ⟨OZ, OT, B5⟩ := HO.out
        exact ⟨some ⟨ga, 0, none⟩, cap, some ⟨g9, 1, none⟩, cap9 - 1, by simp [tab, fputZ_len], ((((OZ.setOther (p := ⟨w.heap.size + 1, 0, none⟩) (by simp only; omega) _).setOther (p := ⟨w.heap.size + 1, 1, none⟩) (by simp only; omega) _).setOther (p := ⟨w.heap.size + 1, 2, none⟩) (by simp only; omega) _).mono (by omega)).below (Below.refl _ _).drew, ((((OT.setOther (p := ⟨w.heap.size + 1, 0, none⟩) (by simp only; omega) _).setOther (p := ⟨w.heap.size + 1, 1, none⟩) (by simp only; omega) _).setOther (p := ⟨w.heap.size + 1, 2, none⟩) (by simp only; omega) _).mono (by omega)).below (Below.refl _ _).drew, (set3 B5 (Nat.le_succ _) (.int .i64 T.t) (.int .i64 T.p) (.slice (some ⟨ga, 0, none⟩) T.zs.length cap)).drew⟩

end Go.Proofs.YtkdkdmjhhgllgaaGreatDoor
end

section
namespace Go.Proofs.YtkdkdmjhhgllgaaGreatDoor
open Go.RowKit

set_option maxHeartbeats 2000000 in
theorem FairPut_any (T : Tab) (a : Option Addr) (c : Nat) (key : Int) (w : World) (hx : T.zs.length ≤ 9223372036854775807) (h1 : IntsAt w a T.zs) (hL : Laid w) :
    Calls Tryz.prog 22 #[tabV T a c, .int .i64 key] w (TabRes (fputT T key) (fputOk T key) w) := by
  have S0 := (((St.start w).read h1).alloc #[.int .i64 T.t, .int .i64 T.p, .slice a T.zs.length c] 25).alloc #[.int .i64 0, .int .i64 0, .slice none 0 0] 25
  rw [World.size_alloc] at S0
  have HP := Lib.hid fun (W : World) (h : IntsAt W a T.zs) (hl : Laid W) => putFairly_any T a c key W hx h hl
  have hL0 := hL.below S0.old hL.pos
  generalize fputT T key = U at *
  generalize fswaps T key = L at *
  generalize fputOk T key = ok at *
  go_enter Tryz.func22, Tryz.ntmps22
  go_wp2_with fail
  refine (HP.out _ (by exact S0.reads 2 rfl) hL0).mono ?_
  rintro e w1 ⟨a1, c1, b1, d1, rfl, ho, _, hb⟩
  have z1 : w.heap.size + 1 + 1 ≤ w1.heap.size := by have := hb.size; simpa using this
  have S1 := ((S0.below hb).own ho).alloc #[.int .i64 U.t, .int .i64 U.p, .slice a1 U.zs.length c1] 25
  clear S0 hb ho hL0
  obtain ⟨x0, x1, x2, x3, x4, x5, xz⟩ := facts3 (S1.cells 2 rfl)
  obtain ⟨y0, y1, y2, y3, y4, y5, yz⟩ := facts3 (S1.cells 0 rfl)
  have S2 := S1.set3Box 2 rfl (by simp [Far, It.box, It.own, It.read]; omega) (by omega) (.int .i64 U.t) (.int .i64 U.p) (.slice a1 U.zs.length c1)
  simp only [List.set_cons_zero, List.set_cons_succ] at S2
  obtain ⟨r0, r1, r2, r3, r4, r5, rz⟩ := facts3 (S2.cells 2 rfl)
  go_wp2_with fail
  refine bodyPost_ret (v := .tuple #[.agg #[.int .i64 U.t, .int .i64 U.p, .slice a1 U.zs.length c1], .bool ok]) (by simp [results, Tryz.results22, go_sem, r0, r1, r2]) rfl ⟨a1, c1, rfl, (S2.owns 1 rfl).mono (by simp <;> omega), S2.old⟩

end Go.Proofs.YtkdkdmjhhgllgaaGreatDoor
end

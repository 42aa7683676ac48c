/-
  Fair tables: several texts as one.
-/
import Derived.Deep.WholeRow
import Derived.Test.YtalehninmdcoeaaGreatDoorBase
import Derived.Test.YtalehninmdcoeaaGreatDoorAway
import Derived.Test.YtalehninmdcoeaaGreatDoorCopyRow
import Derived.Test.YtalehninmdcoeaaGreatDoorLook
import Derived.Test.YtalehninmdcoeaaGreatDoorMath
import Derived.Sort.QuietThIn
import Derived.Sort.QuietTacIn
import Derived.TacticsIn
import Derived.Test.YtalehninmdcoeaaGreatDoorAround2
import Derived.TacticsInMore
import Derived.Test.YtalehninmdcoeaaGreatDoorLow
import Derived.Test.YtalehninmdcoeaaGreatDoorModel6All
import Derived.Test.YtalehninmdcoeaaGreatDoorShiftI
import Derived.Test.YtalehninmdcoeaaGreatDoorFindI
section
namespace Go.Proofs.YtalehninmdcoeaaGreatDoor
open Go.RowKit

section
variable {P : Program} {ops : Array Oper} {rest : List Oper} {o : Oper} {a : Act} {Q : Exit → Act → World → Prop} {w : World}
/-- An operation whose run is known. -/
theorem wide_value (hgd : o.guard = none) (v : Value) (w' : World) (hr : (execOp a.eval o).run P w = .ok (.value v) w') (h : wpList P ops Q rest (a.put o.dst v) w') : wpList P ops Q (o :: rest) a w := by
  refine wpList_plain hgd fun K hK => ?_
  unfold Oper.wp
  rw [hr]
  exact hK _ _ h
theorem wide_skip (hgd : o.guard = none) (w' : World) (hr : (execOp a.eval o).run P w = .ok .skip w') (h : wpList P ops Q rest (a.put o.dst undef) w') : wpList P ops Q (o :: rest) a w := by
  refine wpList_plain hgd fun K hK => ?_
  unfold Oper.wp
  rw [hr]
  exact hK _ _ h

/-- A variable of many cells is made. -/
theorem wide_alloc (hgd : o.guard = none) (ty : TypeId) (ho : o.op = Op.alloc ty) (z : Array Value) (hz : ∀ w, (zeroValue ty).run P w = .ok (.agg z) w)
    (h : wpList P ops Q rest (a.put o.dst (.pointer (some ⟨w.heap.size, 0, none⟩))) (w.alloc (.cells z ty))) : wpList P ops Q (o :: rest) a w := by
  refine wide_value hgd _ _ ?_ h
  simp [execOp, ho, Instr.alloc, hz, Result.andThen, newVar, newRow, Value.cells, go_sem]
/-- A value of many cells is written over a whole block. -/
theorem wide_store (hgd : o.guard = none) (p v : Operand) (ty : TypeId) (ho : o.op = Op.store ty p v) (b : Nat) (t : TypeId) (old cells : Array Value)
    (hp : a.eval p = .pointer (some ⟨b, 0, none⟩)) (hv : a.eval v = .agg cells) (hg : w.heap[b]? = some (.cells old t (0, 0))) (hi : (P.info? ty).map (·.size) = some cells.size)
    (hs : old.size = cells.size) (h1 : cells.all (·.oneCell') = true) (h : wpList P ops Q rest (a.put o.dst undef) (w.setRow b cells)) : wpList P ops Q (o :: rest) a w := by
  refine wide_skip hgd _ ?_ h
  simp [execOp, ho, hp, hv, Instr.storeAt, Instr.sureAddr, run_storeVar_row (P := P) w b t ty old cells hg hi hs h1, Result.andThen]
/-- A value of many cells is read from a whole block. -/
theorem wide_load (hgd : o.guard = none) (p : Operand) (ty : TypeId) (ho : o.op = Op.load ty p) (b : Nat) (t : TypeId) (cells : Array Value) (fr : Nat × Nat) (d : TypeDesc)
    (hp : a.eval p = .pointer (some ⟨b, 0, none⟩)) (hg : w.heap[b]? = some (.cells cells t fr)) (hu : P.underlying ty = some d) (hd : (match d with | .struct _ | .array _ _ => true | _ => false) = true)
    (hi : (P.info? ty).map (·.size) = some cells.size) (h : wpList P ops Q rest (a.put o.dst (.agg cells)) w) : wpList P ops Q (o :: rest) a w := by
  refine wide_value hgd _ _ ?_ h
  simp [execOp, ho, hp, Instr.loadAt, Instr.sureAddr, run_loadVar_row (P := P) w b t ty cells fr d hg hu hd hi, Result.andThen]
end

theorem heap_setRow {w : World} {b : Nat} {c c' : Array Value} {t : TypeId} {fr : Nat × Nat} (h : w.heap[b]? = some (.cells c t fr)) : (w.setRow b c').heap[b]? = some (.cells c' t fr) := by
  simp [World.setRow, Array.getElem?_modify, h]
theorem grownBy_setRow (w : World) (b : Nat) (c : Array Value) : w.grownBy (w.setRow b c) (some b) :=
  ⟨rfl, rfl, rfl, by simp [World.setRow], fun k _ hk => by
    have : b ≠ k := fun e => hk (by rw [e])
    simp [World.setRow, Array.getElem?_modify, this]⟩
/-- A box is written whole. -/
theorem St.setRowAt {w0 w : World} {l : List It} {b : Nat} {c c' : Array Value} {t : TypeId} (h : St w0 w (It.box b c t :: l)) (hf : Far (It.box b c t) l) (hlo : w0.heap.size ≤ b) : St w0 (w.setRow b c') (It.box b c' t :: l) :=
  h.write (i' := It.box b c' t) (grownBy_setRow w b c') (fun k e => by cases e; exact ⟨Nat.le_refl _, Nat.lt_succ_self _⟩) hf hlo (by
    have h0 := (h.all _ List.mem_cons_self).1
    simpa [It.box, World.setRow] using h0) (heap_setRow (h.cells 0 rfl))

end Go.Proofs.YtalehninmdcoeaaGreatDoor
end

section
namespace Go.Proofs.YtalehninmdcoeaaGreatDoor
open Go.RowKit

/-- What cell j of the spots holds, when the first k slots have theirs: held, home, away. -/
def lzk (T : Tab) (k j : Nat) : Int := if j / 3 < k then (if j % 3 = 0 then nth T.zs (j / 3) else if j % 3 = 1 then homeT T (nth T.zs (j / 3)) else awayOf T ((j / 3 : Nat) : Int)) else 0
theorem lzk_at (T : Tab) (k s : Nat) (hs : s < k) : lzk T k (s * 3) = nth T.zs s ∧ lzk T k (s * 3 + 1) = homeT T (nth T.zs s) ∧ lzk T k (s * 3 + 2) = awayOf T (s : Int) := by
  unfold lzk
  have e0 : s * 3 / 3 = s := by omega
  have e1 : (s * 3 + 1) / 3 = s := by omega
  have e2 : (s * 3 + 2) / 3 = s := by omega
  have f0 : s * 3 % 3 = 0 := by omega
  have f1 : (s * 3 + 1) % 3 = 1 := by omega
  have f2 : (s * 3 + 2) % 3 = 2 := by omega
  rw [e0, e1, e2, f0, f1, f2]
  simp [hs]
theorem lzk_other (T : Tab) (k j : Nat) (h : j / 3 ≠ k) : lzk T (k + 1) j = lzk T k j := by
  unfold lzk
  by_cases c : j / 3 < k
  · rw [if_pos c, if_pos (by omega)]
  · rw [if_neg c, if_neg (by omega)]

/-- A lane as a value, when the first k slots have their spots. -/
def laneK (g : Nat) (T : Tab) (k : Nat) : Array Value := #[.slice (some ⟨g, 0, none⟩) T.zs.length T.zs.length] ++ ((List.range 48).map fun j => Value.int .i64 (lzk T k j)).toArray
def laneZ : Array Value := #[.slice none 0 0] ++ Array.replicate 48 (.int .i64 0)
theorem laneZ_size : laneZ.size = 49 := by simp [laneZ]
theorem laneK_size (g : Nat) (T : Tab) (k : Nat) : (laneK g T k).size = 49 := by simp [laneK]
theorem laneK_one (g : Nat) (T : Tab) (k : Nat) : (laneK g T k).all (·.oneCell') = true := by
  rw [Array.all_eq_true_iff_forall_mem]
  intro x hx
  simp only [laneK, Array.mem_append, List.mem_toArray, List.mem_map, List.mem_singleton, Array.mem_singleton] at hx
  rcases hx with rfl | ⟨j, _, rfl⟩ <;> rfl
theorem laneK_ring (g : Nat) (T : Tab) (k : Nat) : (laneK g T k)[0]? = some (.slice (some ⟨g, 0, none⟩) T.zs.length T.zs.length) := by simp [laneK]
theorem laneK_at (g : Nat) (T : Tab) (k : Nat) {j : Nat} (hj : j < 48) : (laneK g T k)[j + 1]? = some (.int .i64 (lzk T k j)) := by
  unfold laneK
  rw [Array.getElem?_append_right (by simp)]
  simp [hj]
theorem laneK_zero (g : Nat) (T : Tab) : laneK g T 0 = #[.slice (some ⟨g, 0, none⟩) T.zs.length T.zs.length] ++ Array.replicate 48 (.int .i64 0) := by
  unfold laneK
  congr 1
theorem laneK_set (g : Nat) (T : Tab) {k : Nat} (hk : k < 16) :
    (((laneK g T k).setIfInBounds (1 + k * 3) (.int .i64 (nth T.zs k))).setIfInBounds (1 + k * 3 + 1) (.int .i64 (homeT T (nth T.zs k)))).setIfInBounds (1 + k * 3 + 2) (.int .i64 (awayOf T (k : Int))) = laneK g T (k + 1) := by
  obtain ⟨e0, e1, e2⟩ := lzk_at T (k + 1) k (by omega)
  apply Array.ext_getElem?
  intro i
  rw [Array.getElem?_setIfInBounds, Array.getElem?_setIfInBounds, Array.getElem?_setIfInBounds]
  simp only [Array.size_setIfInBounds, laneK_size]
  by_cases h0 : i = 0
  · subst h0
    rw [if_neg (by omega), if_neg (by omega), if_neg (by omega), laneK_ring, laneK_ring]
  obtain ⟨j, rfl⟩ : ∃ j, i = j + 1 := ⟨i - 1, by omega⟩
  by_cases hj : j < 48
  · rw [laneK_at g T (k + 1) hj, laneK_at g T k hj]
    by_cases c2 : j = k * 3 + 2
    · subst c2
      rw [if_pos (by omega), if_pos (by omega), e2]
    · rw [if_neg (by omega)]
      by_cases c1 : j = k * 3 + 1
      · subst c1
        rw [if_pos (by omega), if_pos (by omega), e1]
      · rw [if_neg (by omega)]
        by_cases c0 : j = k * 3
        · subst c0
          rw [if_pos (by omega), if_pos (by omega), e0]
        · rw [if_neg (by omega), lzk_other T k j (by omega)]
  · rw [if_neg (by omega), if_neg (by omega), if_neg (by omega), Array.getElem?_eq_none (by rw [laneK_size]; omega), Array.getElem?_eq_none (by rw [laneK_size]; omega)]

/-- The cells of a lane in its block. -/
theorem lane_cells {w : World} {b g k : Nat} {T : Tab} {t : TypeId} (h : w.heap[b]? = some (.cells (laneK g T k) t (0, 0))) :
    w.cell? ⟨b, 0, none⟩ = some (.slice (some ⟨g, 0, none⟩) T.zs.length T.zs.length) ∧ (∀ j, j < 48 → w.cell? ⟨b, j + 1, none⟩ = some (.int .i64 (lzk T k j))) ∧ ∀ i, w.frozen? ⟨b, i, none⟩ = false := by
  refine ⟨by unfold World.cell?; simp only [h]; exact laneK_ring g T k, fun j hj => by unfold World.cell?; simp only [h]; exact laneK_at g T k hj, fun i => by unfold World.frozen?; simp [h]⟩

/-- Three cells of a box that is an item are set. -/
theorem St.set3At {w0 w : World} {l : List It} {b : Nat} {c : Array Value} {t : TypeId} (h : St w0 w l) (n : Nat) (hn : l[n]? = some (It.box b c t)) (o : Nat) (x y z : Value) (hf : ∀ c', Far (It.box b c' t) (l.eraseIdx n)) (hlo : w0.heap.size ≤ b) :
    St w0 (((w.setCell ⟨b, o, none⟩ x).setCell ⟨b, o + 1, none⟩ y).setCell ⟨b, o + 2, none⟩ z) (l.set n (It.box b (((c.setIfInBounds o x).setIfInBounds (o + 1) y).setIfInBounds (o + 2) z) t)) := by
  have hl := (List.getElem?_eq_some_iff.1 hn).1
  have S1 := h.setBoxAt n hn o x (setCell_inRow (h.cells n hn) o x) (hf _) hlo
  have h1 : (l.set n (It.box b (c.setIfInBounds o x) t))[n]? = some (It.box b (c.setIfInBounds o x) t) := by simp [hl]
  have S2 := S1.setBoxAt n h1 (o + 1) y (setCell_inRow (S1.cells n h1) (o + 1) y) (by rw [List.eraseIdx_set_eq]; exact hf _) hlo
  rw [List.set_set] at S2
  have h2 : (l.set n (It.box b ((c.setIfInBounds o x).setIfInBounds (o + 1) y) t))[n]? = some (It.box b ((c.setIfInBounds o x).setIfInBounds (o + 1) y) t) := by simp [hl]
  have S3 := S2.setBoxAt n h2 (o + 2) z (setCell_inRow (S2.cells n h2) (o + 2) z) (by rw [List.eraseIdx_set_eq]; exact hf _) hlo
  rw [List.set_set] at S3
  exact S3

theorem ring_setRow {w : World} {g b : Nat} {T : Tab} (h : RingAt w g T) (hne : b ≠ g) (c : Array Value) : RingAt (w.setRow b c) g T := fun i hi => by
  have := h i hi
  simpa [World.cell?, World.setRow, Array.getElem?_modify, hne] using this

theorem infoL : (Tryz.prog.info? 64).map (fun i => (i.zero, i.size)) = some (some (.agg laneZ), 49) := by kernel_rfl
theorem laneSize : (Tryz.prog.info? 64).map (·.size) = some 49 := (zero_of_info infoL).2
theorem laneZero : ∀ w, (zeroValue 64).run Tryz.prog w = .ok (.agg laneZ) w := (zero_of_info infoL).1
theorem laneBuild (g : Nat) (T : Tab) (w : World) : (Instr.build 64 #[(0, .slice (some ⟨g, 0, none⟩) T.zs.length T.zs.length)]).run Tryz.prog w = .ok (.agg (laneK g T 0)) w := by
  rw [laneK_zero]
  kernel_rfl
theorem wide_build {P : Program} {ops : Array Oper} {rest : List Oper} {o : Oper} {a : Act} {Q : Exit → Act → World → Prop} {w : World} (hgd : o.guard = none) (ty : TypeId) (x : Operand) (ho : o.op = Op.build ty #[(0, x)]) (v u : Value) (hu : a.eval x = u)
    (hr : (Instr.build ty #[(0, u)]).run P w = .ok v w) (h : wpList P ops Q rest (a.put o.dst v) w) : wpList P ops Q (o :: rest) a w := by
  refine wide_value hgd _ _ ?_ h
  simp [execOp, ho, hu, hr, Result.andThen]

set_option maxRecDepth 100000 in
set_option maxHeartbeats 1000000 in
theorem laneOf_any (T : Tab) (a : Option Addr) (c : Nat) (w : World) (h1 : IntsAt w a T.zs) (hv : validB T = true) :
    Calls Tryz.prog 57 #[tabV T a c] w fun e w' => ∃ g, e = .returned (.agg (laneK g T T.zs.length)) ∧ RingAt w' g T ∧ g < w'.heap.size ∧ w.heap.size ≤ g ∧ Below w.heap.size w w' := by
  obtain ⟨⟨l1, l2⟩, _⟩ := valid_facts hv
  have S0 := (((St.start w).read h1).alloc #[.int .i64 T.t, .int .i64 T.p, .slice a T.zs.length c] 25).alloc laneZ 64
  rw [World.size_alloc] at S0
  go_enter Tryz.func57, Tryz.ntmps57
  go_wp2_with (refine wide_alloc rfl 64 rfl laneZ laneZero ?_)
  refine (ringOf_any T a c _ (by exact S0.reads 2 rfl) hv).mono ?_
  rintro e w1 ⟨g, rfl, hg0, hg, hr, hb⟩
  simp only [World.size_alloc] at hg0
  have S1 := S0.below hb
  have hz1 := S1.old.size
  clear S0 hb
  have S3 := ((St.start w1).alloc laneZ 64).setRowAt (c' := laneK g T 0) trivial (Nat.le_refl _)
  rw [World.setRow_alloc_new] at S3
  have q0 := (lane_cells (S3.cells 0 rfl)).1
  dsimp only
  apply_assumption
  refine wide_build rfl 64 (.tmp 7) rfl (.agg (laneK g T 0)) (.slice (some ⟨g, 0, none⟩) T.zs.length T.zs.length) rfl (laneBuild g T _) ?_
  refine wide_alloc rfl 64 rfl laneZ laneZero ?_
  refine wide_store rfl (.tmp 3) (.tmp 8) 64 rfl w1.heap.size 64 laneZ (laneK g T 0) rfl rfl (heap_alloc_last _ _) (by rw [laneSize, laneK_size]) (by rw [laneZ_size, laneK_size]) (laneK_one g T 0) ?_
  rw [World.setRow_alloc_new]
  go_wp2_with fail
  go_loopw [4, 5, 12] (fun _ _ i wr => ∃ k : Nat, k ≤ T.zs.length ∧ i = .int .i64 k ∧ St w1 wr [It.box w1.heap.size (laneK g T k) 64]) (fun _ _ i _ => T.zs.length - (intOf i).toNat)
  case atStart => exact ⟨0, Nat.zero_le _, rfl, S3⟩
  case round =>
    obtain ⟨k, hk, rfl, Sr⟩ := hrel
    clear S3 q0
    by_cases hlt : k < T.zs.length
    · obtain ⟨r0, r1⟩ := (hr.below Sr.old hg) k hlt
      have SO := S1.below Sr.old
      have zr : w1.heap.size + 1 ≤ wr.heap.size := Sr.sz 0 rfl
      have k16 : k < 16 := by omega
      have j0 : (0 : Int) ≤ (k : Int) := by omega
      have j1 : (k : Int) < 16 := by omega
      have HX : Hid ((((laneK g T k).setIfInBounds (1 + k * 3) (.int .i64 (nth T.zs k))).setIfInBounds (1 + k * 3 + 1) (.int .i64 (homeT T (nth T.zs k)))).setIfInBounds (1 + k * 3 + 2) (.int .i64 (awayOf T (k : Int))) = laneK g T (k + 1)) := Lib.hid (laneK_set g T k16)
      have HA := Lib.hid fun (W : World) (h : IntsAt W a T.zs) => AwayOf_any T a c (k : Int) W (by omega) h
      generalize awayOf T (k : Int) = aw at HX HA
      generalize nth T.zs k = x at r0 r1 HX
      generalize homeT T x = hx at r1 HX
      have SC := SO.alloc #[.int .i64 x, .int .i64 hx] 59
      obtain ⟨x0, x1, x2, x3, x4, x5, xz⟩ := facts3 (SC.cells 2 rfl)
      have SL := (Sr.alloc #[.int .i64 x, .int .i64 hx] 59)
      have SD := SL.drew
      go_wp2_with fail
      go_region_held3 (fun w' => (w'.cell? ⟨w.heap.size, 0, none⟩ = some (.int .i64 T.t) ∧ w'.cell? ⟨w.heap.size, 1, none⟩ = some (.int .i64 T.p) ∧ w'.cell? ⟨w.heap.size, 2, none⟩ = some (.slice a T.zs.length c)) ∧ w'.cell? ⟨wr.heap.size, 0, none⟩ = some (.int .i64 x) ∧ w'.cell? ⟨wr.heap.size, 1, none⟩ = some (.int .i64 hx))
        (first
          | exact ⟨⟨x0, x1, x2⟩, (facts2 (SL.cells 0 rfl)).1, (facts2 (SL.cells 0 rfl)).2.1⟩
          | exact ⟨(S1.below SF.old).three 1 rfl, (facts2 (SF.cells 0 rfl)).1, (facts2 (SF.cells 0 rfl)).2.1⟩
          | exact ⟨(S1.below SE.old).three 1 rfl, (facts2 (SE.cells 0 rfl)).1, (facts2 (SE.cells 0 rfl)).2.1⟩)
        (first
          | (go_at_call 37; refine (HA.out _ (by exact (S1.below SD.old).reads 2 rfl)).mono ?_; rintro e w6 ⟨rfl, hb⟩; have SF := SD.below hb; clear hb; obtain ⟨_, LC, LF⟩ := lane_cells (SF.cells 1 rfl); have c0 : w6.cell? ⟨w1.heap.size, 1 + k * 3, none⟩ = some (.int .i64 (lzk T k (k * 3))) := (by rw [show 1 + k * 3 = k * 3 + 1 from Nat.add_comm _ _]; exact LC (k * 3) (by omega)); have c1 : w6.cell? ⟨w1.heap.size, 1 + k * 3 + 1, none⟩ = some (.int .i64 (lzk T k (k * 3 + 1))) := (by rw [show 1 + k * 3 = k * 3 + 1 from Nat.add_comm _ _]; exact LC (k * 3 + 1) (by omega)); have c2 : w6.cell? ⟨w1.heap.size, 1 + k * 3 + 2, none⟩ = some (.int .i64 (lzk T k (k * 3 + 2))) := (by rw [show 1 + k * 3 = k * 3 + 1 from Nat.add_comm _ _]; exact LC (k * 3 + 2) (by omega)); have f0 := LF (1 + k * 3); have f1 := LF (1 + k * 3 + 1); have f2 := LF (1 + k * 3 + 2); clear LC LF; have SE := SF.set3At 1 rfl (1 + k * 3) (.int .i64 x) (.int .i64 hx) (.int .i64 aw) (fun _ => by simp [Far, It.box] <;> omega) (by omega)))
      have SG : St w1 (((w6.setCell ⟨w1.heap.size, 1 + k * 3, none⟩ (.int .i64 x)).setCell ⟨w1.heap.size, 1 + k * 3 + 1, none⟩ (.int .i64 hx)).setCell ⟨w1.heap.size, 1 + k * 3 + 2, none⟩ (.int .i64 aw)) [It.box wr.heap.size #[.int .i64 x, .int .i64 hx] 59, It.box w1.heap.size ((((laneK g T k).setIfInBounds (1 + k * 3) (.int .i64 x)).setIfInBounds (1 + k * 3 + 1) (.int .i64 hx)).setIfInBounds (1 + k * 3 + 2) (.int .i64 aw)) 64] := SE
      rw [HX.out] at SG
      have SH := SG.turn (l' := [It.box w1.heap.size (laneK g T (k + 1)) 64]) fun i hi => List.mem_cons_of_mem _ hi
      clear SG SE SF SD SL SC SO HX HA x0 x1 x2 x3 x4 x5 xz r0 r1 c0 c1 c2 f0 f1 f2
      go_wp2
      go_roundw
      case rel => exact ⟨k + 1, by omega, by go_num, SH⟩
      case measure => simp [intOf]; omega
    · obtain rfl : k = T.zs.length := by omega
      have SO := S1.below Sr.old
      have SP := SO.setRowAt (c' := laneK g T T.zs.length) (by simp [Far, It.box, It.read] <;> omega) (by omega)
      have hL := Sr.cells 0 rfl
      have hR := ring_setRow (b := w.heap.size + 1) (hr.below Sr.old hg) (by omega) (laneK g T T.zs.length)
      have hz2 := SP.old.size
      have hgz : g < (wr.setRow (w.heap.size + 1) (laneK g T T.zs.length)).heap.size := by have := Sr.old.size; simp [World.setRow]; omega
      go_wp2_with (first
        | refine wide_load rfl (.tmp 3) 64 rfl w1.heap.size 64 (laneK g T T.zs.length) (0, 0) _ rfl hL Tryz.underlying64 rfl (by rw [laneSize, laneK_size]) ?_
        | refine wide_store rfl (.tmp 2) (.tmp 26) 64 rfl (w.heap.size + 1) 64 laneZ (laneK g T T.zs.length) rfl rfl (SO.cells 0 rfl) (by rw [laneSize, laneK_size]) (by rw [laneZ_size, laneK_size]) (laneK_one g T T.zs.length) ?_)
      refine bodyPost_ret (v := .agg (laneK g T T.zs.length)) ?_ rfl ⟨g, rfl, hR, hgz, by omega, SP.old⟩
      have hrow := run_loadVar_row (P := Tryz.prog) (wr.setRow (w.heap.size + 1) (laneK g T T.zs.length)) (w.heap.size + 1) 64 64 (laneK g T T.zs.length) (0, 0) _ (SP.cells 0 rfl) Tryz.underlying64 rfl (by rw [laneSize, laneK_size])
      simp [results, Tryz.results57, asAddr, Act.put, Result.andThen, hrow]

end Go.Proofs.YtalehninmdcoeaaGreatDoor
end

section
namespace Go.Proofs.YtalehninmdcoeaaGreatDoor
open Go.RowKit

/-- A spot as a value. -/
def spotV (x h d : Int) : Value := .agg #[.int .i64 x, .int .i64 h, .int .i64 d]

theorem startOf_any (T : Tab) (a : Option Addr) (c : Nat) (key : Int) (w : World) (hv : validB T = true) (h0 : 0 ≤ key) (h9 : key ≤ 99) (h1 : IntsAt w a T.zs) :
    Calls Tryz.prog 59 #[tabV T a c, .int .i64 key] w fun e w' => e = .returned (spotV key (homeN T key : Nat) 0) ∧ Below w.heap.size w w' := by
  have S0 := (((St.start w).read h1).alloc #[.int .i64 T.t, .int .i64 T.p, .slice a T.zs.length c] 25).alloc #[.int .i64 0, .int .i64 0, .int .i64 0] 61
  rw [World.size_alloc] at S0
  have hh := Lib.hid (homeN_eq hv key)
  obtain ⟨x0, x1, x2, x3, x4, x5, xz⟩ := facts3 (S0.cells 1 rfl)
  go_enter Tryz.func59, Tryz.ntmps59
  go_wp2_with fail
  clear x0 x1 x2 x3 x4 x5 xz
  refine (homeIn_any T a c key _ hv h0 h9).mono ?_
  rw [← hh.out]
  rintro e w1 ⟨rfl, hb⟩
  have S1 := S0.below hb
  clear S0 hb
  obtain ⟨x0, x1, x2, x3, x4, x5, xz⟩ := facts3 (S1.cells 0 rfl)
  have S2 := (S1.turn (l' := []) fun i hi => by cases hi).set3Far (b := w.heap.size + 1) trivial (by omega) (.int .i64 key) (.int .i64 (homeN T key : Nat)) (.int .i64 0)
  go_wp2
  refine bodyPost_ret (v := spotV key (homeN T key : Nat) 0) (by simp [results, Tryz.results59, go_sem, x0, x1, x2, x3, x4, x5, spotV]) rfl ⟨rfl, S2.old⟩

set_option maxHeartbeats 1000000 in
theorem standsAhead_any (x h d y g k : Int) (w : World) :
    Calls Tryz.prog 60 #[spotV x h d, spotV y g k] w fun e w' => e = .returned (.bool (if d = k then decide (x < y) else decide (k < d))) ∧ Below w.heap.size w w' := by
  have S0 := ((St.start w).alloc #[.int .i64 x, .int .i64 h, .int .i64 d] 61).alloc #[.int .i64 y, .int .i64 g, .int .i64 k] 61
  rw [World.size_alloc] at S0
  obtain ⟨x0, x1, x2, x3, x4, x5, xz⟩ := facts3 (S0.cells 1 rfl)
  obtain ⟨y0, y1, y2, y3, y4, y5, yz⟩ := facts3 (S0.cells 0 rfl)
  by_cases e : d = k
  · subst e
    rw [if_pos rfl]
    have b : (d == d) = true := by simp
    unfold spotV
    go_enter Tryz.func60, Tryz.ntmps60
    go_wp2
    go_ret
    exact ⟨rfl, S0.old⟩
  · rw [if_neg e]
    have b : (d == k) = false := beq_eq_false_iff_ne.2 e
    unfold spotV
    go_enter Tryz.func60, Tryz.ntmps60
    go_wp2
    go_ret
    exact ⟨rfl, S0.old⟩

/-- A parameter of many cells is laid. -/
theorem wide_box {P : Program} {ops : Array Oper} {rest : List Oper} {o : Oper} {a : Act} {Q : Exit → Act → World → Prop} {w : World} (hgd : o.guard = none) (ty : TypeId) (x : Operand) (ho : o.op = Op.box ty x) (c : Array Value) (hx : a.eval x = .agg c)
    (h : wpList P ops Q rest (a.put o.dst (.pointer (some ⟨w.heap.size, 0, none⟩))) (w.alloc (.cells c ty))) : wpList P ops Q (o :: rest) a w := by
  refine wide_value hgd _ _ ?_ h
  simp only [execOp, ho, hx]
  simp [Instr.box, Result.andThen, newVar, newRow, Value.cells, go_sem]

end Go.Proofs.YtalehninmdcoeaaGreatDoor
end

section
namespace Go.Proofs.YtalehninmdcoeaaGreatDoor
open Go.RowKit
section
variable {F : Fence} {n : Nat} {P : Program} {ops : Array Oper} {md : Region.Mode} {C : World → Prop}

/-- No operation of a region puts a call off. -/
def noDefer (ops : Array Oper) : Bool := ops.all fun o => match o.op with | .defer _ => false | _ => true
theorem noDefer_at {ops : Array Oper} (h : noDefer ops = true) {i : Nat} {o : Oper} (hi : ops[i]? = some o) : ∀ c, o.op ≠ .defer c := fun c e => by
  unfold noDefer at h
  have := Array.all_eq_true_iff_forall_mem.1 h o (Array.mem_of_getElem? hi)
  rw [e] at this
  cases this

theorem wpIn_of_quietR {o : Oper} {a : Act} {K : Act → Prop} {K' : Act → World → Prop} {Q' : Exit → Act → World → Prop} {w : World} (hd : ∀ c, o.op ≠ .defer c) (hw : C w) (h : ∀ a w', C w' → K a → K' a w')
    (ha : o.askedIn F P a C) (hh : o.quietIn F n P a C K) : o.wpIn F n P a w K' Q' := by
  obtain ⟨v, h1, h2⟩ := hh
  have h3 := h1 w hw
  unfold Oper.quietAtIn at h3
  unfold Oper.wpIn
  refine ⟨ha w hw, ?_⟩
  rw [Oper.semAt_eq _ _ _ hd]
  generalize (execOp a.eval o).run P w = r at *
  cases r with
  | ok x w' =>
    cases x <;> simp only [Oper.quietUponIn] at h3 <;> simp only [Oper.uponIn]
    case value u =>
      obtain ⟨e1, e2⟩ := h3
      rw [e1, e2]
      exact h _ _ hw h2
    case skip =>
      obtain ⟨e1, e2⟩ := h3
      rw [e1, ← e2]
      exact h _ _ hw h2
    case enter f args =>
      obtain ⟨e1, hd, hc⟩ := h3
      rw [e1]
      exact ⟨hd, hc.mono fun e w'' ⟨he, hw''⟩ => by subst he; exact h _ _ hw'' h2⟩
  | halt x w' => simp only [Oper.quietUponIn] at h3

theorem wpOpIn_of_qOpInR (hnd : noDefer ops = true) {i : Nat} {a : Act} {K : Act → Prop} {K' : Act → World → Prop} {Q' : Exit → Act → World → Prop} {w : World} (hC : C w) (h : ∀ a w', C w' → K a → K' a w')
    (hh : qOpIn F n P ops C i K a) : wpOpIn F n P ops Q' i K' a w := by
  unfold qOpIn at hh
  unfold wpOpIn
  split
  · rename_i ho; simp only [ho] at hh; exact h _ _ hC hh
  · rename_i o ho
    simp only [ho] at hh
    obtain ⟨ha, hh⟩ := hh
    split
    · rename_i hw; simp only [hw, if_true] at hh; exact wpIn_of_quietR (noDefer_at hnd ho) hC h ha hh
    · rename_i hw; simp only [hw] at hh; exact ⟨ha w hC, h _ _ hC hh⟩

theorem wpAnyIn_of_quietR (hnd : noDefer ops = true) {Q : Act → Prop} {Q' : Exit → Act → World → Prop} (hQ : ∀ a w, C w → Q a → Q' .normal a w) : ∀ (fuel : Nat) (listed : Array Bool) (a : Act) (w : World), C w →
    wpAnyQIn F n P md ops C Q fuel listed a → wpAnyIn F n P md ops Q' fuel listed a w
  | 0, _, _, _, hw, h => ⟨h.1, hQ _ _ hw h.2⟩
  | fuel + 1, _, _, _, hw, h => ⟨fun h0 => hQ _ _ hw (h.1 h0), fun i hi => wpOpIn_of_qOpInR hnd hw (fun a' w' hw' => wpAnyIn_of_quietR hnd hQ fuel _ a' w' hw') (h.2 i hi)⟩

/-- One walk of the lexical order serves every order, in a round too, over a class of worlds. -/
theorem wpIn_region_quietR {id : Nat} {Q : Exit → Act → World → Prop} {a : Act} {w : World} {l : List Oper} (C : World → Prop) (hm : P.follows .mixedOrders = true) (hB : Region.lexB .any l.toArray = true) (hnd : noDefer l.toArray = true) (hC : C w.drew)
    (h : wpQuietIn F n P l.toArray C (fun a' => ∀ w', C w' → Q .normal a' w') l a) : (Code.region id l.toArray true).wpIn F n P Q a w := by
  simp only [Region.lexB, Bool.and_eq_true] at hB
  refine wpIn_region_any hm (wpAnyIn_of_quietR hnd (Q := fun a' => ∀ w', C w' → Q .normal a' w') (fun _ w' hw' h => h w' hw') _ _ _ _ hC ?_)
  have := wpAnyQIn_lex (F := F) (n := n) (C := C) (md := .any) hB.1 l 0 (Array.replicate l.toArray.size false) a (by simp) (by simpa using hB.2) h
  simpa using this
end

/-- The class of worlds in which what was there lies as it lay. -/
theorem quiet_load {F : Fence} {n : Nat} {P : Program} {C : World → Prop} {o : Oper} {a : Act} {v : Value} (h : ∀ w, C w → (execOp a.eval o).run P w = .ok (.value v) w) : ∀ w, C w → o.quietAtIn F n P a C w v := fun w hw => by
  unfold Oper.quietAtIn Oper.quietUponIn
  rw [h w hw]
  exact ⟨rfl, rfl⟩

section
variable {F : Fence} {n : Nat} {P : Program} {C : World → Prop}

/-- A stand-in for the last operation: it does nothing, and waits for the same. -/
def dumb (o : Oper) : Oper := { o with dst := none, op := .move (.const (.bool false)), guard := none }
/-- Whoever waits does so for operations ahead of it; all are waited for, by the last one or by others that it waits for in turn; no guard asks the last one. -/
def chained (ops : List Oper) : Bool :=
  (List.range ops.length).all fun i => (match ops[i]? with
    | none => true
    | some o => o.after.all (fun e => !Region.binds .any e || decide (e.on < i)) && (match o.guard with | none => true | some (g : Nat × Bool) => decide (g.1 + 1 < ops.length))) &&
    (decide (i + 1 = ops.length) || (List.range ops.length).any fun k => decide (i < k) && match ops[k]? with
      | none => false
      | some o => o.after.any fun e => Region.binds .any e && e.on == i)

structure Chain (l : List Oper) (o : Oper) : Prop where
  down : ∀ (i : Nat) (oi : Oper), (l ++ [o])[i]? = some oi → ∀ e ∈ oi.after, Region.binds .any e = true → e.on < i
  grd : ∀ (i : Nat) (oi : Oper), (l ++ [o])[i]? = some oi → ∀ g : Nat × Bool, oi.guard = some g → g.1 < l.length
  next : ∀ i, i < l.length → ∃ (k : Nat) (ok : Oper), i < k ∧ (l ++ [o])[k]? = some ok ∧ ∃ e ∈ ok.after, Region.binds .any e = true ∧ e.on = i
theorem chain_of {l : List Oper} {o : Oper} (h : chained (l ++ [o]) = true) : Chain l o := by
  have key : ∀ (i : Nat) (oi : Oper), (l ++ [o])[i]? = some oi → (oi.after.all (fun e => !Region.binds .any e || decide (e.on < i)) = true ∧ (match oi.guard with | none => true | some (g : Nat × Bool) => decide (g.1 + 1 < (l ++ [o]).length)) = true) ∧
      (decide (i + 1 = (l ++ [o]).length) = true ∨ (List.range (l ++ [o]).length).any (fun k => decide (i < k) && match (l ++ [o])[k]? with
      | none => false
      | some o => o.after.any fun e => Region.binds .any e && e.on == i) = true) := by
    intro i oi hi
    have hlt := (List.getElem?_eq_some_iff.1 hi).1
    have h1 := List.all_eq_true.1 h i (List.mem_range.2 hlt)
    simp only [hi, Bool.and_eq_true, Bool.or_eq_true] at h1
    exact h1
  refine ⟨fun i oi hi e he hb => ?_, fun i oi hi g hg => ?_, fun i hi => ?_⟩
  · have h1 := Array.all_eq_true_iff_forall_mem.1 (key i oi hi).1.1 e he
    simp only [hb, Bool.not_true, Bool.false_or, decide_eq_true_eq] at h1
    exact h1
  · have h1 := (key i oi hi).1.2
    rw [hg] at h1
    simp only [decide_eq_true_eq, List.length_append, List.length_cons, List.length_nil] at h1
    omega
  · obtain ⟨oi, hoi⟩ : ∃ oi, (l ++ [o])[i]? = some oi := ⟨(l ++ [o])[i]'(by simp; omega), List.getElem?_eq_getElem _⟩
    rcases (key i oi hoi).2 with h1 | h1
    · simp at h1; omega
    · obtain ⟨k, hk, h2⟩ := List.any_eq_true.1 h1
      simp only [Bool.and_eq_true, decide_eq_true_eq] at h2
      obtain ⟨h3, h4⟩ := h2
      cases hok : (l ++ [o])[k]? with
      | none => rw [hok] at h4; cases h4
      | some ok =>
        rw [hok] at h4
        obtain ⟨e, he, h5⟩ := Array.any_eq_true'.1 h4
        simp only [Bool.and_eq_true, beq_iff_eq] at h5
        exact ⟨k, ok, h3, hok, e, he, h5.1, h5.2⟩

theorem dumb_at {l : List Oper} {o oi : Oper} {i : Nat} (h : (l ++ [o])[i]? = some oi) : (i < l.length ∧ (l ++ [dumb o])[i]? = some oi) ∨ (i = l.length ∧ oi = o ∧ (l ++ [dumb o])[i]? = some (dumb o)) := by
  have hlt := (List.getElem?_eq_some_iff.1 h).1
  simp only [List.length_append, List.length_cons, List.length_nil] at hlt
  by_cases hi : i < l.length
  · left
    rw [List.getElem?_append_left hi] at h ⊢
    exact ⟨hi, h⟩
  · right
    obtain rfl : i = l.length := by omega
    simp at h ⊢
    exact h.symm
theorem dumb_back {l : List Oper} {o oi : Oper} {i : Nat} (h : (l ++ [dumb o])[i]? = some oi) : ∃ oj, (l ++ [o])[i]? = some oj ∧ oj.after = oi.after := by
  have hlt := (List.getElem?_eq_some_iff.1 h).1
  simp only [List.length_append, List.length_cons, List.length_nil] at hlt
  by_cases hi : i < l.length
  · rw [List.getElem?_append_left hi] at h ⊢
    exact ⟨oi, h, rfl⟩
  · obtain rfl : i = l.length := by omega
    simp at h ⊢
    rw [← h]; rfl
theorem ready_dumb {l : List Oper} {o : Oper} {listed : Array Bool} {i : Nat} : i ∈ Region.ready .any (l ++ [o]).toArray listed ↔ i ∈ Region.ready .any (l ++ [dumb o]).toArray listed := by
  rw [mem_ready, mem_ready]
  simp only [List.getElem?_toArray]
  constructor
  · rintro ⟨h0, oi, hoi, h⟩
    rcases dumb_at hoi with ⟨_, h1⟩ | ⟨_, rfl, h1⟩
    · exact ⟨h0, oi, h1, h⟩
    · exact ⟨h0, _, h1, h⟩
  · rintro ⟨h0, oi, hoi, h⟩
    obtain ⟨oj, h1, h2⟩ := dumb_back hoi
    exact ⟨h0, oj, h1, by rw [h2]; exact h⟩
theorem wanted_dumb {l : List Oper} {o oi : Oper} (h : ∀ g : Nat × Bool, oi.guard = some g → g.1 < l.length) (t : Array Value) : Region.wanted oi (yielded (l ++ [dumb o]).toArray t) = Region.wanted oi (yielded (l ++ [o]).toArray t) := by
  unfold Region.wanted
  cases hg : oi.guard with
  | none => rfl
  | some g =>
    have hl := h g hg
    have e : yielded (l ++ [dumb o]).toArray t g.1 = yielded (l ++ [o]).toArray t g.1 := by
      unfold yielded
      simp only [List.getElem?_toArray]
      rw [List.getElem?_append_left hl, List.getElem?_append_left hl]
    obtain ⟨g1, g2⟩ := g
    simp only at e ⊢
    rw [e]

/-- Who has been taken has waited. -/
def Closed (ops : Array Oper) (listed : Array Bool) : Prop := ∀ (j : Nat) (oj : Oper), ops[j]? = some oj → listed.getD j false = true → ∀ e ∈ oj.after, Region.binds .any e = true → listed.getD e.on false = true
theorem Closed.set {ops : Array Oper} {listed : Array Bool} (h : Closed ops listed) {i : Nat} (hi : i ∈ Region.ready .any ops listed) : Closed ops (listed.setIfInBounds i true) := by
  intro j oj hj hl e he hb
  obtain ⟨_, oi, hoi, hall⟩ := mem_ready.1 hi
  by_cases hij : i = j
  · subst hij
    rw [hoi] at hj; cases hj
    exact getD_set_true (hall e he hb)
  · rw [getD_set_ne false hij] at hl
    exact getD_set_true (h j oj hj hl e he hb)
theorem last_all {l : List Oper} {o : Oper} (H : Chain l o) {listed : Array Bool} (hc : Closed (l ++ [o]).toArray listed) (hr : l.length ∈ Region.ready .any (l ++ [o]).toArray listed) : ∀ q j, j + q = l.length → j < l.length → listed.getD j false = true := by
  obtain ⟨_, oo, hoo, hall⟩ := mem_ready.1 hr
  intro q
  induction q using Nat.strongRecOn with
  | ind q ih =>
    intro j hq hj
    obtain ⟨k, ok, hk, hok, e, he, hb, heq⟩ := H.next j hj
    have hkl := (List.getElem?_eq_some_iff.1 hok).1
    simp only [List.length_append, List.length_cons, List.length_nil] at hkl
    by_cases hkm : k = l.length
    · subst hkm
      simp only [List.getElem?_toArray] at hoo
      rw [hok] at hoo; cases hoo
      rw [← heq]; exact hall e he hb
    · have := hc k ok (by simpa using hok) (ih (l.length - k) (by omega) k (by omega) (by omega)) e he hb
      rwa [heq] at this
theorem some_ready {l : List Oper} {o : Oper} (H : Chain l o) {listed : Array Bool} (hs : listed.size = l.length + 1) (hm : listed.getD l.length true = false) : Region.ready .any (l ++ [o]).toArray listed ≠ [] := by
  have key : ∀ q j, q = j → j < l.length + 1 → listed.getD j true = false → ∃ i, i ∈ Region.ready .any (l ++ [o]).toArray listed := by
    intro q
    induction q using Nat.strongRecOn with
    | ind q ih =>
      intro j hq hj hun
      by_cases hall : ∀ i, i < j → listed.getD i true = true
      · obtain ⟨oj, hoj⟩ : ∃ oj, (l ++ [o])[j]? = some oj := ⟨(l ++ [o])[j]'(by simp; omega), List.getElem?_eq_getElem _⟩
        refine ⟨j, mem_ready.2 ⟨hun, oj, by simpa using hoj, fun e he hb => ?_⟩⟩
        have hd := H.down j oj hoj e he hb
        have := hall e.on hd
        have hlt : e.on < listed.size := by omega
        simp [Array.getD, hlt] at this ⊢
        exact this
      · obtain ⟨i, hi⟩ := Classical.not_forall.1 hall
        obtain ⟨h1, h2⟩ := Classical.not_imp.1 hi
        exact ih i (by omega) i rfl (by omega) (by simpa using h2)
  obtain ⟨i, hi⟩ := key _ _ rfl (Nat.lt_succ_self _) hm
  intro e
  rw [e] at hi
  cases hi

theorem anyIn_of_last {l : List Oper} {o : Oper} {Q : Exit → Act → World → Prop} (H : Chain l o) (hnd : noDefer l.toArray = true) (hgo : o.guard = none) : ∀ (fuel : Nat) (listed : Array Bool) (a : Act) (w : World), C w → Closed (l ++ [o]).toArray listed →
    listed.size = l.length + 1 → listed.getD l.length true = false → wpAnyQIn F n P .any (l ++ [dumb o]).toArray C (fun a' => ∀ w', C w' → o.wpIn F n P a' w' (fun a w => Q .normal a w) Q) fuel listed a → wpAnyIn F n P .any (l ++ [o]).toArray Q fuel listed a w := by
  intro fuel
  induction fuel with
  | zero =>
    intro listed a w hw hc hs hm h
    exact absurd (List.eq_nil_iff_forall_not_mem.2 fun i hi => by have := h.1; rw [ready_dumb, this] at hi; cases hi) (some_ready H hs hm)
  | succ fuel ih =>
    intro listed a w hw hc hs hm h
    refine ⟨fun h0 => absurd h0 (some_ready H hs hm), fun i hi => ?_⟩
    have hq := h.2 i (ready_dumb.1 hi)
    obtain ⟨hun, oi, hoi, _⟩ := mem_ready.1 hi
    simp only [List.getElem?_toArray] at hoi
    rcases dumb_at hoi with ⟨hlt, h1⟩ | ⟨rfl, rfl, h1⟩
    · have hn : ∀ c, oi.op ≠ .defer c := noDefer_at hnd (i := i) (by
        rw [List.getElem?_append_left hlt] at hoi
        simpa using hoi)
      have hrec : ∀ a' w', C w' → wpAnyQIn F n P .any (l ++ [dumb o]).toArray C (fun a' => ∀ w', C w' → o.wpIn F n P a' w' (fun a w => Q .normal a w) Q) fuel (listed.setIfInBounds i true) a' → wpAnyIn F n P .any (l ++ [o]).toArray Q fuel (listed.setIfInBounds i true) a' w' := fun a' w' hw' h' =>
        ih _ a' w' hw' (hc.set hi) (by simpa using hs) (by rw [getD_set_ne true (by omega)]; exact hm) h'
      unfold qOpIn at hq
      unfold wpOpIn
      simp only [List.getElem?_toArray, h1, hoi] at hq ⊢
      obtain ⟨ha, hq⟩ := hq
      rw [wanted_dumb (H.grd i oi hoi)] at hq
      split
      · rename_i hwt; simp only [hwt, if_true] at hq; exact wpIn_of_quietR hn hw hrec ha hq
      · rename_i hwt; simp only [hwt] at hq; exact ⟨ha w hw, hrec _ _ hw hq⟩
    · have hall := last_all H hc hi
      have hnone : Region.ready .any (l ++ [oi]).toArray (listed.setIfInBounds l.length true) = [] := List.eq_nil_iff_forall_not_mem.2 fun j hj => by
        obtain ⟨hj0, oj, hoj, _⟩ := mem_ready.1 hj
        simp only [List.getElem?_toArray] at hoj
        have hjl := (List.getElem?_eq_some_iff.1 hoj).1
        simp only [List.length_append, List.length_cons, List.length_nil] at hjl
        by_cases e : l.length = j
        · subst e
          simp [hs] at hj0
        · rw [getD_set_ne true e] at hj0
          have h3 := hall (l.length - j) j (by omega) (by omega)
          have hlt : j < listed.size := by omega
          simp [hlt] at hj0 h3
          rw [hj0] at h3; cases h3
      have hnone2 : Region.ready .any (l ++ [dumb oi]).toArray (listed.setIfInBounds l.length true) = [] := List.eq_nil_iff_forall_not_mem.2 fun j hj => by
        rw [← ready_dumb, hnone] at hj; cases hj
      unfold qOpIn at hq
      unfold wpOpIn
      simp only [List.getElem?_toArray, h1, hoi] at hq ⊢
      rw [if_pos (by simp [Region.wanted, hgo])]
      obtain ⟨_, hq⟩ := hq
      rw [if_pos (by simp [Region.wanted, dumb])] at hq
      obtain ⟨v, _, hq⟩ := hq
      have hq2 : ∀ w', C w' → oi.wpIn F n P a w' (fun a w => Q .normal a w) Q := by
        cases fuel with
        | zero => exact hq.2
        | succ fuel => exact hq.1 hnone2
      refine Oper.wpIn_mono (fun a' w' h' => ?_) (hq2 w hw)
      cases fuel with
      | zero => exact ⟨hnone, h'⟩
      | succ fuel => exact ⟨fun _ => h', fun j hj => by rw [hnone] at hj; cases hj⟩

theorem wpQuietIn_snoc {ops : Array Oper} {Q Q' : Act → Prop} {o : Oper} : ∀ (l : List Oper) (a : Act), (∀ a, Q a → wpQuietIn F n P ops C Q' [o] a) → wpQuietIn F n P ops C Q l a → wpQuietIn F n P ops C Q' (l ++ [o]) a
  | [], a, h, hq => h a hq
  | p :: l, a, h, hq => by
    refine ⟨hq.1, ?_⟩
    have h2 := hq.2
    split
    · rename_i hw; simp only [hw, if_true] at h2; exact Oper.quietIn_mono (fun a' h' => wpQuietIn_snoc l a' h h') h2
    · rename_i hw; simp only [hw] at h2; exact wpQuietIn_snoc l _ h h2

/-- One walk of the lexical order, the last operation apart: it waits for all others, and may do what it likes. -/
theorem wpIn_region_last {id : Nat} {Q : Exit → Act → World → Prop} {a : Act} {w : World} {l : List Oper} {o : Oper} (C : World → Prop) (hm : P.follows .mixedOrders = true) (hB : Region.lexB .any (l ++ [dumb o]).toArray = true) (hnd : noDefer l.toArray = true)
    (hch : chained (l ++ [o]) = true) (hgo : o.guard = none) (hC : C w.drew)
    (h : wpQuietIn F n P (l ++ [dumb o]).toArray C (fun a' => ∀ w', C w' → o.wpIn F n P a' w' (fun a w => Q .normal a w) Q) l a) : (Code.region id (l ++ [o]).toArray true).wpIn F n P Q a w := by
  have H := chain_of hch
  simp only [Region.lexB, Bool.and_eq_true] at hB
  have hsz : (l ++ [o]).toArray.size = l.length + 1 := by simp
  have hsz2 : (l ++ [dumb o]).toArray.size = l.length + 1 := by simp
  refine wpIn_region_any hm ?_
  rw [hsz]
  have h1 : wpQuietIn F n P (l ++ [dumb o]).toArray C (fun a' => ∀ w', C w' → o.wpIn F n P a' w' (fun a w => Q .normal a w) Q) (l ++ [dumb o]) a := by
    refine wpQuietIn_snoc l a (fun a' h' => ⟨fun w' _ f hf => ?_, ?_⟩) h
    · simp [dumb, Oper.about] at hf
    · rw [if_pos (by simp [Region.wanted, dumb])]
      refine ⟨.bool false, fun w' hw' => ?_, h'⟩
      simp [Oper.quietAtIn, Oper.quietUponIn, dumb, execOp, Act.eval]
  have h2 := wpAnyQIn_lex (F := F) (n := n) (C := C) (md := .any) hB.1 (l ++ [dumb o]) 0 (Array.replicate (l.length + 1) false) a (by simp) (by rw [← hsz2]; simpa using hB.2) h1
  rw [show (l ++ [dumb o]).length = l.length + 1 by simp] at h2
  exact anyIn_of_last H hnd hgo _ _ _ _ hC (fun j oj _ hl => by simp [Array.getElem?_replicate] at hl; split at hl <;> simp at hl) (by simp) (by simp) h2
end

end Go.Proofs.YtalehninmdcoeaaGreatDoor
end

section
namespace Go.Proofs.YtalehninmdcoeaaGreatDoor
open Go.RowKit Go.Shelf
attribute [local go_sem] Oper.semAt_some

/-- What passed's variables hold when a key has come so far. -/
abbrev passIt (T : Tab) (g : Nat) (key : Int) (hn wz n : Nat) : List It :=
  [It.box (wz + 1) #[.int .i64 key, .int .i64 hn, .int .i64 n] 61, It.box wz (laneK g T T.zs.length) 64, It.box (wz + 1 + 1) #[.func (.func 60) #[] #[]] 68]
/-- All that have been passed stand ahead. -/
def AllAhead (T : Tab) (key : Int) (hn : Nat) (pre : List Nat) : Prop := ∀ i x, pre[i]? = some x → aheadB T (stepS T hn x) key i = true
theorem AllAhead.snoc {T : Tab} {key : Int} {hn : Nat} {pre : List Nat} {x : Nat} (h : AllAhead T key hn pre) (hx : aheadB T (stepS T hn x) key pre.length = true) : AllAhead T key hn (pre ++ [x]) := fun i y hy => by
  rw [List.getElem?_append] at hy
  split at hy
  · exact h i y hy
  · rename_i hi
    obtain rfl : i = pre.length := by
      have := (List.getElem?_eq_some_iff.1 hy).1
      simp at this; omega
    simp at hy
    subst hy
    exact hx
def PassOut (T : Tab) (g : Nat) (key : Int) (hn : Nat) (w : World) (B : Nat) (c : Code) (pre : List Nat) (W : World) : Prop :=
  ∃ pre' x, c = .exit 0 ∧ pre = pre' ++ [x] ∧ AllAhead T key hn pre' ∧ aheadB T (stepS T hn x) key pre'.length = false ∧ St w W (passIt T g key hn w.heap.size pre'.length) ∧ B ≤ W.heap.size
theorem PassOut.own {T : Tab} {g : Nat} {key : Int} {hn : Nat} {w : World} {B : Nat} (hB : w.heap.size + 3 ≤ B) (c : Code) : OwnFrom B (PassOut T g key hn w B c) := by
  rintro s A B' row ⟨pre', x, h1, h2, h3, h4, h5, h6⟩ hg hr
  exact ⟨pre', x, h1, h2, h3, h4, h5.grown2 hg (fun k e => ⟨by have := (hr k e).1; omega, fun i hi => .inr (by
      have := (hr k e).1
      simp only [List.mem_cons, List.not_mem_nil, or_false] at hi
      rcases hi with rfl | rfl | rfl <;> simp [It.box] <;> omega)⟩), Nat.le_trans h6 hg.size⟩

theorem keepsF_below {B : Nat} {W W' : World} (h : Below W.heap.size W W') : KeepsFrom B W W' := ⟨h.size, fun k o _ hk _ => (h.block k (Array.getElem?_eq_some_iff.1 hk).1).trans hk⟩

/-- The function value that passed is handed. -/
def aheadF : Value := .func (.func 60) #[] #[]

theorem range_snoc3 {k : Nat} {pre : List Nat} {x : Nat} (he : List.range k = pre ++ [x]) : k = pre.length + 1 ∧ x = pre.length ∧ pre = List.range pre.length := by
  have hl : k = pre.length + 1 := by have := congrArg List.length he; simpa using this
  subst hl
  rw [List.range_succ] at he
  obtain ⟨e1, e2⟩ := List.append_inj' he rfl
  exact ⟨rfl, by simpa using e2.symm, e1.symm⟩
theorem AllAhead.range {T : Tab} {key : Int} {hn n : Nat} (h : AllAhead T key hn (List.range n)) {d : Nat} (hd : d < n) : aheadB T (stepS T hn d) key d = true := h d d (by simp [hd])
theorem pass_all {T : Tab} {key : Int} {hn n : Nat} (h : AllAhead T key hn (List.range n)) : goN (fun d => !aheadB T (stepS T hn d) key d) n = n := by
  refine Nat.le_antisymm (goN_le _ _) (Nat.le_of_not_lt fun hn2 => ?_)
  have h1 := goN_stop (p := fun d => !aheadB T (stepS T hn d) key d) hn2
  rw [h.range hn2] at h1
  simp at h1
theorem pass_stop {T : Tab} {key : Int} {hn n k : Nat} {pre : List Nat} {x : Nat} (hk : k ≤ n) (he : List.range k = pre ++ [x]) (h : AllAhead T key hn pre) (hs : aheadB T (stepS T hn x) key pre.length = false) :
    goN (fun d => !aheadB T (stepS T hn d) key d) n = pre.length := by
  obtain ⟨e1, e2, e3⟩ := range_snoc3 he
  rw [e3] at h
  subst e2
  exact goN_eq (by omega) (fun d hd => by simp [h.range hd]) (by simp [hs])
theorem setCell_three2 {w : World} {b : Nat} {x y z : Value} {t : TypeId} (h : w.heap[b]? = some (.cells #[x, y, z] t (0, 0))) (v : Value) : (w.setCell ⟨b, 2, none⟩ v).heap[b]? = some (.cells #[x, y, v] t (0, 0)) := by
  simp [World.setCell, Array.getElem?_modify, h]

set_option maxRecDepth 100000 in
set_option maxHeartbeats 20000000 in
theorem passed_any (T : Tab) (g : Nat) (key : Int) (w : World) (hv : validB T = true) (hR : RingAt w g T) (hg : g < w.heap.size) :
    Calls Tryz.prog 58 #[.agg (laneK g T T.zs.length), spotV key (homeN T key : Nat) 0, aheadF] w fun e w' => e = .returned (.int .i64 (passN T key : Nat)) ∧ Below w.heap.size w w' := by
  obtain ⟨⟨l1, l2⟩, _⟩ := valid_facts hv
  have hhl := homeN_lt hv key
  have hpN : Hid (passN T key = goN (fun d => !aheadB T (stepS T (homeN T key) d) key d) T.zs.length) := Lib.hid rfl
  have S0 := (((St.start w).alloc (laneK g T T.zs.length) 64).alloc #[.int .i64 key, .int .i64 (homeN T key : Nat), .int .i64 0] 61).alloc #[.func (.func 60) #[] #[]] 68
  simp only [World.size_alloc] at S0
  generalize homeN T key = hn at hhl S0 hpN ⊢
  generalize passN T key = pN at hpN ⊢
  have q0 := (lane_cells (S0.cells 2 rfl)).1
  obtain ⟨x0, x1, x2, x3, x4, x5, xz⟩ := facts3 (S0.cells 1 rfl)
  unfold spotV aheadF
  refine (callsIn_wide (n := 9)).1 ?_
  refine callsIn_of_wp_marks Tryz.func58 rfl trivial ?_ rfl
  simp only [Tryz.ntmps58, List.size_toArray, List.length_cons, List.length_nil, Nat.reduceAdd, Nat.reduceSub, Array.replicate_succ, Array.replicate_zero, List.push_toArray, List.append_toArray, List.nil_append, List.cons_append]
  gi_step
  gi_step
  refine wpIn_wide.2 ?_
  go_step
  refine wide_box rfl 64 (.tmp 0) rfl (laneK g T T.zs.length) rfl ?_
  go_wp2_with fail
  gi_wp2_with (refine ⟨trivial, ?_⟩; gi_at_call 108; refine (callsIn_wide.2 (ringAround_any _ _ _ _ _)).mono ?_; rintro e w' ⟨rfl, rfl⟩)
  clear q0 x0 x1 x2 x3 x4 x5 xz
  have S4 := (S0.alloc #[.slice (some ⟨g, 0, none⟩) T.zs.length T.zs.length] 56).alloc #[.int .i64 hn] 3
  have z4 := S4.sz 0 rfl
  have hR4 := hR.below S4.old hg
  simp only [World.size_alloc] at S4 z4
  generalize hW4 : ((((w.alloc (.cells (laneK g T T.zs.length) 64)).alloc (.cells #[.int .i64 key, .int .i64 hn, .int .i64 0] 61)).alloc (.cells #[.func (.func 60) #[] #[]] 68)).alloc (.cells #[.slice (some ⟨g, 0, none⟩) T.zs.length T.zs.length] 56)).alloc (.cells #[.int .i64 hn] 3) = W4 at S4 z4 hR4 ⊢
  have z5 : W4.heap.size = w.heap.size + 5 := by rw [← hW4]; simp
  clear hW4
  have hB1 := (facts1 (S4.cells 1 rfl)).1
  have hB2 := (facts1 (S4.cells 0 rfl)).1
  have S5 : St w W4 (passIt T g key hn w.heap.size ([] : List Nat).length) := S4.turn fun i hi => by
    simp only [List.mem_cons, List.not_mem_nil, or_false, List.length_nil] at hi ⊢
    rcases hi with rfl | rfl | rfl <;> simp
  have hItems : ∀ (s : List Nat), ∀ i ∈ passIt T g key hn w.heap.size s.length, i.hi ≤ W4.heap.size := fun s i hi => by
    simp only [List.mem_cons, List.not_mem_nil, or_false] at hi
    rcases hi with rfl | rfl | rfl <;> simp [It.box] <;> omega
  have hzB : w.heap.size + 3 ≤ W4.heap.size := by omega
  refine wpIn_rangeFunc_ownH (n := 9) rfl (by omega) (gf := 140) (lb := #[.pointer (some ⟨w.heap.size + 1 + 1 + 1, 0, none⟩), .pointer (some ⟨w.heap.size + 1 + 1 + 1 + 1, 0, none⟩)]) rfl trivial (enters_of Tryz.func140 (by kernel_rfl) rfl)
    (ringAroundS_stops 8 (by omega) (fun b => b = g ∨ b = w.heap.size + 1 + 1 + 1 ∨ b = w.heap.size + 1 + 1 + 1 + 1) (w.heap.size + 1 + 1 + 1) (w.heap.size + 1 + 1 + 1 + 1) g hn T l1 l2 hhl W4 hB1 hB2 hR4 (.inr (.inl rfl)) (.inr (.inr rfl)) (.inl rfl) (by omega) (by omega) (by omega)) KeepS.trans (fun W l o o' hl _ _ _ => keepS_put (by rintro (e | e | e) <;> omega)) (Below.refl _ _) (fun _ => rfl)
    (fun pre W => (St w W (passIt T g key hn w.heap.size pre.length) ∧ W4.heap.size ≤ W.heap.size) ∧ AllAhead T key hn pre)
    (PassOut T g key hn w W4.heap.size)
    (st_own hItems (by omega)) (fun c => PassOut.own hzB c)
    ⟨⟨S5, Nat.le_refl _⟩, fun i x hx => by simp at hx⟩
    (fun x a' W => a' = { tmps := #[.agg (laneK g T T.zs.length), .agg #[.int .i64 key, .int .i64 hn, .int .i64 0], .func (.func 60) #[] #[], .pointer (some ⟨w.heap.size, 0, none⟩), .pointer (some ⟨w.heap.size + 1, 0, none⟩), .pointer (some ⟨w.heap.size + 1 + 1, 0, none⟩), .int .i64 0, .int .i64 (stepS T hn x), .pointer (some ⟨w.heap.size, 0, none⟩), .slice (some ⟨g, 0, none⟩) T.zs.length T.zs.length, .pointer (some ⟨w.heap.size + 1, 0, none⟩), .pointer (some ⟨w.heap.size + 1, 1, none⟩), .int .i64 hn, .func (.func 140) #[] #[.pointer (some ⟨w.heap.size + 1 + 1 + 1, 0, none⟩), .pointer (some ⟨w.heap.size + 1 + 1 + 1 + 1, 0, none⟩)], .int .i64 (stepS T hn x), .agg #[.int .i64 (nth T.zs (stepS T hn x)), .int .i64 (homeT T (nth T.zs (stepS T hn x)))], undef, undef, undef, undef, undef, undef, undef, undef, undef, undef, undef, undef, undef, undef], defers := [] })
    (fun x a' _ _ _ _ h _ _ => h) ?assign ?body ?done ?stop
  case assign =>
    rintro l pre x W K hJ hK
    gi_wp2
    exact hK _ _ (KeepsFrom.refl _ _) (KeepS.refl _ W) hJ rfl
  case body =>
    rintro l pre x a' W hl hrec ⟨⟨Sp, hz⟩, hf⟩ rfl hlt
    have hkl := stepS_lt l1 hn x
    obtain ⟨v0, v1, v2, v3, v4, v5, vz⟩ := facts3 (Sp.cells 0 rfl)
    obtain ⟨r0, r1, rz⟩ := facts1 (Sp.cells 2 rfl)
    obtain ⟨_, LC, _⟩ := lane_cells (Sp.cells 1 rfl)
    have HAH : Hid (aheadB T (stepS T hn x) key pre.length = if awayOf T (stepS T hn x : Nat) = (pre.length : Int) then decide (nth T.zs (stepS T hn x) < key) else decide ((pre.length : Int) < awayOf T (stepS T hn x : Nat))) := Lib.hid (ahead_if T (stepS T hn x) key pre.length)
    have HSN := Lib.hid fun h => AllAhead.snoc (x := x) hf h
    obtain ⟨e0, e1, e2⟩ := lzk_at T T.zs.length (stepS T hn x) hkl
    have c0 := LC (stepS T hn x * 3) (by omega)
    have c1 := LC (stepS T hn x * 3 + 1) (by omega)
    have c2 := LC (stepS T hn x * 3 + 2) (by omega)
    rw [e0] at c0; rw [e1] at c1; rw [e2] at c2
    clear LC e0 e1 e2
    generalize hkk : stepS T hn x = kk at *
    have HKK := Lib.hid hkk
    clear hkk
    generalize nth T.zs kk = y at *
    generalize homeT T y = hy at *
    generalize awayOf T (kk : Int) = aw at *
    rw [show kk * 3 + 1 = 1 + kk * 3 from Nat.add_comm _ _] at c0
    rw [show kk * 3 + 1 + 1 = 1 + kk * 3 + 1 by omega] at c1
    rw [show kk * 3 + 2 + 1 = 1 + kk * 3 + 2 by omega] at c2
    have HST := Lib.hid fun (W' : World) => standsAhead_any y hy aw key hn pre.length W'
    have k0 : (0 : Int) ≤ (kk : Int) := by omega
    have k1 : (kk : Int) < 16 := by omega
    have hp16 : pre.length ≤ 16 := by omega
    have hmix : Tryz.prog.follows .mixedOrders = true := by kernel_rfl
    rw [← HAH.out] at HST
    generalize hah : aheadB T kk key pre.length = ah at *
    have HA2 := Lib.hid hah
    have HF := Lib.hid hf
    have HI := Lib.hid hItems
    have SP := Lib.hid Sp
    clear hah hf hItems HAH Sp v3 v4 v5 vz S4 S5 hR4 hB1 hB2 S0 hR hv hl hrec hlt
    gi_wp2_with fail
    refine wpIn_region_quietR (fun w' => Below W.heap.size W w') hmix (by kernel_rfl) (by kernel_rfl) ((Below.refl _ _).drew) ?_
    refine wpQuietIn_step (fun _ _ _ _ => trivial) (fun K hK => ?_)
    go_simp
    refine ⟨.func (.func 60) #[] #[], fun w' hb => ?_, hK _ ?_⟩
    · have q := (hb.cell (p := ⟨w.heap.size + 1 + 1, 0, none⟩) (by show w.heap.size + 1 + 1 < _; omega)).trans r0
      go_simp
    clear hK K
    refine wpQuietIn_step (fun _ _ _ _ => trivial) (fun K hK => ?_)
    go_simp
    refine ⟨_, fun w' hb => rfl, hK _ ?_⟩
    clear hK K
    refine wpQuietIn_step (fun _ _ _ _ => trivial) (fun K hK => ?_)
    go_simp
    refine ⟨_, fun w' hb => rfl, hK _ ?_⟩
    clear hK K
    refine wpQuietIn_step (fun _ _ _ _ => trivial) (fun K hK => ?_)
    go_simp
    refine ⟨_, fun w' hb => rfl, hK _ ?_⟩
    clear hK K
    refine wpQuietIn_step (fun _ _ _ _ => trivial) (fun K hK => ?_)
    go_simp
    refine ⟨spotV y hy aw, fun w' hb => ?_, hK _ ?_⟩
    · have q0 := (hb.cell (p := ⟨w.heap.size, 1 + kk * 3, none⟩) (by show w.heap.size < _; omega)).trans c0
      have q1 := (hb.cell (p := ⟨w.heap.size, 1 + kk * 3 + 1, none⟩) (by show w.heap.size < _; omega)).trans c1
      have q2 := (hb.cell (p := ⟨w.heap.size, 1 + kk * 3 + 2, none⟩) (by show w.heap.size < _; omega)).trans c2
      unfold spotV
      go_simp
    clear hK K
    refine wpQuietIn_step (fun _ _ _ _ => trivial) (fun K hK => ?_)
    go_simp
    refine ⟨spotV key hn pre.length, fun w' hb => ?_, hK _ ?_⟩
    · have q0 := (hb.cell (p := ⟨w.heap.size + 1, 0, none⟩) (by show w.heap.size + 1 < _; omega)).trans v0
      have q1 := (hb.cell (p := ⟨w.heap.size + 1, 1, none⟩) (by show w.heap.size + 1 < _; omega)).trans v1
      have q2 := (hb.cell (p := ⟨w.heap.size + 1, 2, none⟩) (by show w.heap.size + 1 < _; omega)).trans v2
      unfold spotV
      go_simp
    clear hK K
    refine wpQuietIn_step (fun _ _ _ _ => trivial) (fun K hK => ?_)
    go_simp
    refine ⟨.bool ah, fun w' hb => (CallsIn.inRound l (callsIn_wide.2 (HST.out w'))).mono ?_, hK _ ?_⟩
    · rintro e w6 ⟨rfl, hb6⟩
      exact ⟨rfl, hb.trans (hb6.mono hb.size)⟩
    clear hK K
    refine wpQuietIn_step (fun _ _ _ _ => trivial) (fun K hK => ?_)
    go_simp
    refine ⟨_, fun w' hb => rfl, hK _ ?_⟩
    clear hK K
    refine wpQuietIn_nil ?_
    rintro w6 hb6
    have S6 := SP.out.below hb6
    obtain ⟨v0, v1, v2, v3, v4, v5, vz⟩ := facts3 (S6.cells 0 rfl)
    have KF : Hid (KeepsFrom W4.heap.size W w6) := Lib.hid (keepsF_below hb6)
    have KS : Hid (KeepS (fun b => b = g ∨ b = w.heap.size + 1 + 1 + 1 ∨ b = w.heap.size + 1 + 1 + 1 + 1) W w6) := Lib.hid ((KeepS.refl _ W).below (m := W4.heap.size) (by rintro k (e | e | e) <;> omega) hz hb6)
    have hz6 : W4.heap.size ≤ w6.heap.size := Nat.le_trans hz hb6.size
    have E7 : Hid (St w (w6.setCell ⟨w.heap.size + 1, 2, none⟩ (.int .i64 (pre.length + 1))) (passIt T g key hn w.heap.size (pre ++ [x]).length)) := Lib.hid (by
      have e : ((pre ++ [x]).length : Int) = pre.length + 1 := by simp
      unfold passIt
      rw [e]
      exact S6.setBoxAt 0 rfl 2 (.int .i64 (pre.length + 1)) (setCell_three2 (S6.cells 0 rfl) _) (by simp [Far, It.box]) (by omega))
    have E8 : Hid (KeepsFrom W4.heap.size W (w6.setCell ⟨w.heap.size + 1, 2, none⟩ (.int .i64 (pre.length + 1)))) := Lib.hid (KF.out.trans ((KeepsOthers.setCell _ _ _).from _))
    have E9 : Hid (KeepS (fun b => b = g ∨ b = w.heap.size + 1 + 1 + 1 ∨ b = w.heap.size + 1 + 1 + 1 + 1) W (w6.setCell ⟨w.heap.size + 1, 2, none⟩ (.int .i64 (pre.length + 1)))) := Lib.hid (KS.out.set (by rintro (e | e | e) <;> simp only at e <;> omega) _)
    have Z5 := Lib.hid z5
    clear z5
    clear r0 c0 c1 c2 HST
    cases ah
    · gi_wp2_with fail
      exact ⟨KF.out, pre, x, rfl, rfl, HF.out, by rw [HKK.out]; exact HA2.out, S6, hz6⟩
    · gi_wp2_with fail
      exact ⟨E8.out, E9.out, ⟨E7.out, by simpa [World.setCell] using hz6⟩, HSN.out trivial⟩
  case done =>
    rintro D ys W hD rfl ⟨⟨Sp, hz⟩, hf⟩ hK
    obtain ⟨v0, v1, v2, v3, v4, v5, vz⟩ := facts3 (Sp.cells 0 rfl)
    have HP : Hid (pN = T.zs.length) := Lib.hid (by rw [hpN.out]; exact pass_all hf)
    have S10 := st_put (o := .deferred none) Sp (B := w.heap.size + 3) (D := D) (by simp [It.box]) (by omega) (by omega)
    clear hf
    gi_wp2_with fail
    refine ⟨by simp, .inl ⟨_, _, rfl, run_takeDeferred hK, ?_⟩⟩
    refine ⟨.int .i64 pN, ?_, rfl, S10.old⟩
    rw [HP.out]
    simp [results, Tryz.f58, go_sem]
  case stop =>
    rintro D c pre W hD ⟨k, hk, he⟩ ⟨pre', x, rfl, rfl, hf, hs, Sp, hz⟩ hK
    obtain ⟨v0, v1, v2, v3, v4, v5, vz⟩ := facts3 (Sp.cells 0 rfl)
    have HP : Hid (pN = pre'.length) := Lib.hid (by rw [hpN.out]; exact pass_stop hk he hf hs)
    have S10 := st_put (o := .deferred none) Sp (B := w.heap.size + 3) (D := D) (by simp [It.box]) (by omega) (by omega)
    clear hf hs he
    gi_wp2_with fail
    refine ⟨by simp, .inl ⟨_, _, rfl, run_takeDeferred hK, ?_⟩⟩
    refine ⟨.int .i64 pN, ?_, rfl, S10.old⟩
    rw [HP.out]
    simp [results, Tryz.f58, go_sem]

end Go.Proofs.YtalehninmdcoeaaGreatDoor
end

section
namespace Go.Proofs.YtalehninmdcoeaaGreatDoor
open Go.RowKit

section
variable {F : Fence} {n : Nat} {P : Program} {ops : Array Oper} {rest : List Oper} {o : Oper} {a : Act} {Q : Exit → Act → World → Prop} {w : World}
theorem wide_valueIn (hgd : o.guard = none) (hnd : ∀ c, o.op ≠ .defer c) (hab : o.about P w a.eval = none) (v : Value) (w' : World) (hr : (execOp a.eval o).run P w = .ok (.value v) w')
    (h : wpListIn F n P ops Q rest (a.put o.dst v) w') : wpListIn F n P ops Q (o :: rest) a w := by
  refine wpListIn_plain hgd fun K hK => ?_
  unfold Oper.wpIn
  refine ⟨fun f hf => (by rw [hab] at hf; cases hf), ?_⟩
  rw [Oper.semAt_eq _ _ _ hnd, hr]
  exact hK _ _ h
theorem wide_skipIn (hgd : o.guard = none) (hnd : ∀ c, o.op ≠ .defer c) (hab : o.about P w a.eval = none) (w' : World) (hr : (execOp a.eval o).run P w = .ok .skip w')
    (h : wpListIn F n P ops Q rest (a.put o.dst undef) w') : wpListIn F n P ops Q (o :: rest) a w := by
  refine wpListIn_plain hgd fun K hK => ?_
  unfold Oper.wpIn
  refine ⟨fun f hf => (by rw [hab] at hf; cases hf), ?_⟩
  rw [Oper.semAt_eq _ _ _ hnd, hr]
  exact hK _ _ h

theorem wide_allocIn (hgd : o.guard = none) (ty : TypeId) (ho : o.op = Op.alloc ty) (z : Array Value) (hz : ∀ w, (zeroValue ty).run P w = .ok (.agg z) w)
    (h : wpListIn F n P ops Q rest (a.put o.dst (.pointer (some ⟨w.heap.size, 0, none⟩))) (w.alloc (.cells z ty))) : wpListIn F n P ops Q (o :: rest) a w := by
  refine wide_valueIn hgd (fun c e => by rw [ho] at e; cases e) (by simp [Oper.about, ho]) _ _ ?_ h
  simp [execOp, ho, Instr.alloc, hz, Result.andThen, newVar, newRow, Value.cells, go_sem]
theorem wide_storeIn (hgd : o.guard = none) (p v : Operand) (ty : TypeId) (ho : o.op = Op.store ty p v) (b : Nat) (t : TypeId) (old cells : Array Value)
    (hp : a.eval p = .pointer (some ⟨b, 0, none⟩)) (hv : a.eval v = .agg cells) (hg : w.heap[b]? = some (.cells old t (0, 0))) (hi : (P.info? ty).map (·.size) = some cells.size)
    (hs : old.size = cells.size) (h1 : cells.all (·.oneCell') = true) (h : wpListIn F n P ops Q rest (a.put o.dst undef) (w.setRow b cells)) : wpListIn F n P ops Q (o :: rest) a w := by
  refine wide_skipIn hgd (fun c e => by rw [ho] at e; cases e) (by simp [Oper.about, ho]) _ ?_ h
  simp [execOp, ho, hp, hv, Instr.storeAt, Instr.sureAddr, run_storeVar_row (P := P) w b t ty old cells hg hi hs h1, Result.andThen]
theorem wide_loadIn (hgd : o.guard = none) (p : Operand) (ty : TypeId) (ho : o.op = Op.load ty p) (b : Nat) (t : TypeId) (cells : Array Value) (fr : Nat × Nat) (d : TypeDesc)
    (hp : a.eval p = .pointer (some ⟨b, 0, none⟩)) (hg : w.heap[b]? = some (.cells cells t fr)) (hu : P.underlying ty = some d) (hd : (match d with | .struct _ | .array _ _ => true | _ => false) = true)
    (hi : (P.info? ty).map (·.size) = some cells.size) (h : wpListIn F n P ops Q rest (a.put o.dst (.agg cells)) w) : wpListIn F n P ops Q (o :: rest) a w := by
  refine wide_valueIn hgd (fun c e => by rw [ho] at e; cases e) (by simp [Oper.about, ho]) _ _ ?_ h
  simp [execOp, ho, hp, Instr.loadAt, Instr.sureAddr, run_loadVar_row (P := P) w b t ty cells fr d hg hu hd hi, Result.andThen]
/-- The run of such a load. -/
theorem wide_load_run (p : Operand) (ty : TypeId) (ho : o.op = Op.load ty p) (b : Nat) (t : TypeId) (cells : Array Value) (fr : Nat × Nat) (d : TypeDesc)
    (hp : a.eval p = .pointer (some ⟨b, 0, none⟩)) (hg : w.heap[b]? = some (.cells cells t fr)) (hu : P.underlying ty = some d) (hd : (match d with | .struct _ | .array _ _ => true | _ => false) = true)
    (hi : (P.info? ty).map (·.size) = some cells.size) : (execOp a.eval o).run P w = .ok (.value (.agg cells)) w := by
  simp [execOp, ho, hp, Instr.loadAt, Instr.sureAddr, run_loadVar_row (P := P) w b t ty cells fr d hg hu hd hi, Result.andThen]
end

end Go.Proofs.YtalehninmdcoeaaGreatDoor
end

section
namespace Go.Proofs.YtalehninmdcoeaaGreatDoor
open Go.RowKit

theorem keysL_mem {zs : List Int} {k : Nat} {x : Int} (hk : k < zs.length) (hx : nth zs k = x) (hb : inB x 0 99 = true) : x ∈ keysL zs := by
  unfold keysL
  rw [List.mem_filter]
  exact ⟨by rw [← hx]; exact nth_mem hk, hb⟩
/-- What the program asks of a key. -/
def goodK (T : Tab) (x : Int) : Bool := decide ((passN T x : Int) = awayOf T (findI T x))
theorem key_slot {T : Tab} {x : Int} (hs : soundB T = true) (hx : x ∈ keysL T.zs) : ∃ k : Nat, k < T.zs.length ∧ findOf T x = k ∧ findI T x = k ∧ nth T.zs k = x ∧ 0 ≤ x ∧ x ≤ 99 := by
  obtain ⟨hm, hb⟩ := List.mem_filter.1 hx
  obtain ⟨h0, h9⟩ := inB_iff.1 hb
  obtain ⟨i, hi, e⟩ := mem_nth hm
  have hf := sound_find hs hi (by rw [e]; exact h0)
  rw [e] at hf
  refine ⟨i, hi, ?_, hf, e, h0, h9⟩
  unfold findOf
  rw [if_pos (by rw [(sound_all.1 hs).1, hb]; rfl), hf]
theorem good_iff {T : Tab} {k : Nat} (hs : soundB T = true) (hk : k < T.zs.length) (h0 : 0 ≤ nth T.zs k) : goodK T (nth T.zs k) = slotB T k := by
  have hv := (sound_all.1 hs).1
  have hf := sound_find hs hk h0
  have hp := pass_self hv hk h0
  have ha := (away_self hv hk h0).1
  unfold goodK
  rw [hf, ha]
  cases hb : slotB T k
  · rw [hb] at hp
    exact decide_eq_false fun e => by
      have := hp.1 (by omega)
      cases this
  · rw [hb] at hp
    exact decide_eq_true (by have := hp.2 rfl; omega)
theorem fair_keys {T : Tab} (hs : soundB T = true) : fairTo T T.zs.length = (keysL T.zs).all (goodK T) := by
  rw [Bool.eq_iff_iff, fairTo_iff, List.all_eq_true]
  constructor
  · intro h x hx
    obtain ⟨k, hk, _, _, e, h0, _⟩ := key_slot hs hx
    rw [← e, good_iff hs hk (by omega)]
    exact h k hk
  · intro h i hi
    by_cases hn : nth T.zs i < 0
    · simp [slotB, hn]
    · have hv := valid_slot (sound_all.1 hs).1 hi
      rw [← good_iff hs hi (by omega)]
      exact h _ (keysL_mem hi rfl (inB_true ⟨by omega, by omega⟩))

set_option maxRecDepth 100000 in
set_option maxHeartbeats 2000000 in
theorem ringKeysM_in (n : Nat) (hn : 1 ≤ n) (l Bn g : Nat) (T : Tab) (hlen : T.zs.length ≤ 100) (J Jx : List Int → World → Prop)
    (W : World) (hJ : AbidesFrom W.heap.size J)
    (hY : ∀ pre x W1, x ∈ keysL T.zs → J pre W1 → pre.length < T.zs.length → YieldAt Fence.wide (n - 1) Tryz.prog l #[.int .i64 x] W1 fun e W' =>
      (e = .returned (.bool true) ∧ J (pre ++ [x]) W' ∧ KeepBlock g W1 W') ∨ (e = .returned (.bool false) ∧ Jx (pre ++ [x]) W'))
    (hBn : W.cell? ⟨Bn, 0, none⟩ = some (.slice (some ⟨g, 0, none⟩) T.zs.length T.zs.length)) (hR : RingAt W g T) (hg : g < W.heap.size) (h0 : J [] W) :
    CallsIn Fence.wide n Tryz.prog 130 #[.func (.yield l) #[] #[], .pointer (some ⟨Bn, 0, none⟩)] W fun e W' => (∃ v, e = .returned v) ∧
      ((∃ ys, ys = keysL T.zs ∧ J ys W') ∨ (∃ pre, True ∧ Jx pre W')) := by
  refine callsIn_of_wp Tryz.func130 rfl trivial ?_ rfl
  simp only [Tryz.ntmps130, List.size_toArray, List.length_cons, List.length_nil, Nat.reduceAdd, Nat.reduceSub, Array.replicate_succ, Array.replicate_zero, List.push_toArray, List.append_toArray, List.nil_append, List.cons_append]
  gi_wp2
  gi_loopw [7] (fun i wr => ∃ k : Nat, k ≤ T.zs.length ∧ i = .int .i64 k ∧ J (keysL (T.zs.take k)) wr ∧ KeepBlock g W wr)
    (fun i _ => T.zs.length - (intOf i).toNat)
  case atStart => exact ⟨0, Nat.zero_le _, rfl, h0, KeepBlock.refl _ _⟩
  case round =>
    obtain ⟨k, hk, rfl, hJs, hnx⟩ := hrel
    by_cases hlt : k < T.zs.length
    · obtain ⟨c0, c1⟩ := hnx.ring hR k hlt
      obtain ⟨x, hX⟩ : ∃ x, nth T.zs k = x := ⟨_, rfl⟩
      rw [hX] at c0 c1
      have X := Lib.hid hX
      clear hX
      have JA := Lib.hid (hJ _ _ _ none hJs (World.grownBy_alloc wr (.cells #[.int .i64 x, .int .i64 (homeT T x)] 59) none) (fun r e => by cases e))
      have BA := Lib.hid (hnx.alloc hg (.cells #[.int .i64 x, .int .i64 (homeT T x)] 59))
      cases hb : inB x 0 99
      · have hb' := hb
        have HB := Lib.hid hb
        clear hb hb'
        gi_wp2_with (refine ⟨trivial, ?_⟩; gi_at_call 85; refine (callsIn_wide.2 (heldIsKey_any _ _)).mono ?_; rintro e w' ⟨rfl, rfl⟩; rw [HB.out])
        refine ⟨fun _ h => (by cases h), ?_⟩
        gi_wp2
        go_roundw
        case rel => exact ⟨k + 1, by omega, by go_num, by rw [keysL_no hlt X.out HB.out]; exact JA.out, BA.out⟩
        case measure => simp [intOf]; omega
      · obtain ⟨fn, tmps, assign, body, hy, hRd⟩ := hY _ x _ (keysL_mem hlt X.out hb) JA.out (Nat.lt_of_le_of_lt (keysL_len _ _) hlt)
        have HB := Lib.hid hb
        clear hb
        gi_wp2_with (refine ⟨trivial, ?_⟩; gi_at_call 85; refine (callsIn_wide.2 (heldIsKey_any _ _)).mono ?_; rintro e w' ⟨rfl, rfl⟩; rw [HB.out])
        refine hRd.mono ?_
        rintro e W3 (⟨rfl, hJ3, hk3⟩ | ⟨rfl, hJx3⟩)
        · have B3 := Lib.hid (BA.out.trans hk3)
          gi_wp2
          go_roundw
          case rel => exact ⟨k + 1, by omega, by go_num, by rw [keysL_yes hlt X.out HB.out]; exact hJ3, B3.out⟩
          case measure => simp [intOf]; omega
        · gi_wp2
          refine bodyPost_ret (results_none rfl _ _ _) rfl ?_
          exact ⟨⟨_, rfl⟩, .inr ⟨_, trivial, hJx3⟩⟩
    · obtain rfl : k = T.zs.length := by omega
      gi_wp2
      go_end0
      exact ⟨⟨_, rfl⟩, .inl ⟨_, rfl, by rw [List.take_length] at hJs; exact hJs⟩⟩


/-- Keys of a table as data. -/
abbrev KeyM (T : Tab) := {x : Int // x ∈ keysL T.zs}

theorem ringKeysM_stops (n : Nat) (hn : 1 ≤ n) (Bn g : Nat) (T : Tab) (hlen : T.zs.length ≤ 100) (w : World) (hg : g < w.heap.size) (hb : Bn < w.heap.size)
    (hBn : w.cell? ⟨Bn, 0, none⟩ = some (.slice (some ⟨g, 0, none⟩) T.zs.length T.zs.length)) (hR : RingAt w g T) :
    SeqStopsK Fence.wide n Tryz.prog 130 #[.pointer (some ⟨Bn, 0, none⟩)] (fun x : KeyM T => #[Value.int .i64 x.1]) (KeepBlock g) (fun ys => ys.map Subtype.val = keysL T.zs) (fun _ => True) T.zs.length w := fun l J Jx W hW hJ _ hY h0 => by
  refine (ringKeysM_in n hn l Bn g T hlen (fun pre W => ∃ p : List (KeyM T), p.map Subtype.val = pre ∧ J p W) (fun pre W => ∃ p : List (KeyM T), p.map Subtype.val = pre ∧ Jx p W) W (fun s W W' row h hg hr => by
    obtain ⟨p, e, hj⟩ := h
    exact ⟨p, e, hJ _ _ _ row hj hg hr⟩) ?_ ((hW.cell (p := ⟨Bn, 0, none⟩) hb).trans hBn) (hR.below hW hg) (Nat.lt_of_lt_of_le hg hW.size) ⟨[], rfl, h0⟩).mono ?_
  · rintro pre x W1 hx ⟨p, rfl, hj⟩ hl
    obtain ⟨fn, tmps, assign, body, hy, hRd⟩ := hY p ⟨x, hx⟩ W1 hj (by simpa using hl)
    refine ⟨fn, tmps, assign, body, hy, hRd.mono ?_⟩
    rintro e W' (⟨rfl, h1, h2⟩ | ⟨rfl, h1⟩)
    · exact .inl ⟨rfl, ⟨p ++ [⟨x, hx⟩], by simp, h1⟩, h2⟩
    · exact .inr ⟨rfl, p ++ [⟨x, hx⟩], by simp, h1⟩
  · rintro e W' ⟨he, (⟨ys, hys, p, rfl, hj⟩ | ⟨pre, _, p, rfl, hj⟩)⟩
    · exact ⟨he, .inl ⟨p, hys, hj⟩⟩
    · exact ⟨he, .inr ⟨p, trivial, hj⟩⟩

end Go.Proofs.YtalehninmdcoeaaGreatDoor
end

section
namespace Go.Proofs.YtalehninmdcoeaaGreatDoor
open Go.RowKit Go.Shelf
attribute [local go_sem] Oper.semAt_some

def FairOut (T : Tab) (w : World) (B : Nat) (c : Code) (W : World) : Prop :=
  c = .ret ∧ fairB T = false ∧ St w W [It.box (w.heap.size + 1) #[.bool false] 4] ∧ B ≤ W.heap.size
theorem FairOut.own {α : Type} {T : Tab} {w : World} {B : Nat} (hB : w.heap.size + 2 ≤ B) (c : Code) : OwnFrom B (fun (_ : α) W => FairOut T w B c W) := by
  rintro s A B' row ⟨h1, h2, h5, h6⟩ hg hr
  exact ⟨h1, h2, h5.grown2 hg (fun k e => ⟨by have := (hr k e).1; omega, fun i hi => .inr (by
      have := (hr k e).1
      simp only [List.mem_cons, List.not_mem_nil, or_false] at hi
      rcases hi with rfl <;> simp [It.box] <;> omega)⟩), Nat.le_trans h6 hg.size⟩

theorem all_false {l : List Int} {p : Int → Bool} {x : Int} (hx : x ∈ l) (h : p x = false) : l.all p = false := by
  cases ha : l.all p
  · rfl
  · have := List.all_eq_true.1 ha x hx
    rw [h] at this; cases this

set_option maxRecDepth 100000 in
set_option maxHeartbeats 4000000 in
theorem IsFair_any (T : Tab) (a : Option Addr) (c : Nat) (w : World) (hx : T.zs.length ≤ 9223372036854775807) (h1 : IntsAt w a T.zs) (hL : Laid w) :
    Calls Tryz.prog 54 #[tabV T a c] w fun e w' => e = .returned (.bool (fairB T)) ∧ Below w.heap.size w w' := by
  have S0 := (((St.start w).read h1).alloc #[.int .i64 T.t, .int .i64 T.p, .slice a T.zs.length c] 25).alloc #[.bool false] 4
  rw [World.size_alloc] at S0
  have HF : Hid (fairB T = (plainB T && decide (-1 ∈ T.zs) && fairTo T T.zs.length)) := Lib.hid rfl
  cases hp : plainB T
  · go_enter Tryz.func54, Tryz.ntmps54
    go_wp2_with fail
    refine (isPlain_any T a c _ hx (by exact S0.reads 2 rfl)).mono ?_
    rw [hp]
    rintro e w1 ⟨rfl, hb⟩
    have S1 := S0.below hb
    clear S0 hb
    obtain ⟨x0, x1, xz⟩ := facts1 (S1.cells 0 rfl)
    go_wp2
    have S2 := S1.setBoxAt 0 rfl 0 (.bool false) (setCell_one0 (S1.cells 0 rfl) _) (by simp [Far, It.box, It.read]) (by omega)
    refine bodyPost_ret (v := .bool false) (by simp [results, Tryz.results54, go_sem, x0, x1]) rfl ⟨by rw [HF.out, hp]; rfl, S2.old⟩
  · cases hd : decide (-1 ∈ T.zs)
    · go_enter Tryz.func54, Tryz.ntmps54
      go_wp2_with fail
      refine (isPlain_any T a c _ hx (by exact S0.reads 2 rfl)).mono ?_
      rw [hp]
      rintro e w1 ⟨rfl, hb⟩
      have S1 := S0.below hb
      clear S0 hb
      obtain ⟨y0, y1, y2, y3, y4, y5, yz⟩ := facts3 (S1.cells 1 rfl)
      go_wp2_with fail
      refine (contains_any T.zs a c (-1) _ hx (by exact S1.reads 2 rfl)).mono ?_
      rintro e w2 ⟨rfl, rfl⟩
      rw [hd]
      obtain ⟨x0, x1, xz⟩ := facts1 (S1.cells 0 rfl)
      have S2 := S1.setBoxAt 0 rfl 0 (.bool false) (setCell_one0 (S1.cells 0 rfl) _) (by simp [Far, It.box, It.read]) (by omega)
      go_wp2
      refine bodyPost_ret (v := .bool false) (by simp [results, Tryz.results54, go_sem, x0, x1]) rfl ⟨by rw [HF.out, hp, hd]; rfl, S2.old⟩
    · obtain ⟨hs, hv, ht⟩ := plain_parts hp
      obtain ⟨⟨l1, l2⟩, _⟩ := valid_facts hv
      have HK : Hid (fairB T = (keysL T.zs).all (goodK T)) := Lib.hid (by rw [HF.out, hp, hd, fair_keys hs]; rfl)
      have HS := Lib.hid hs
      have HV := Lib.hid hv
      have HP := Lib.hid hp
      have HD := Lib.hid hd
      clear ht HF hs hv hp hd
      refine (callsIn_wide (n := 9)).1 ?_
      refine callsIn_of_wp_marks Tryz.func54 rfl trivial ?_ rfl
      simp only [Tryz.ntmps54, List.size_toArray, List.length_cons, List.length_nil, Nat.reduceAdd, Nat.reduceSub, Array.replicate_succ, Array.replicate_zero, List.push_toArray, List.append_toArray, List.nil_append, List.cons_append]
      gi_wp2_with fail
      refine ⟨trivial, (callsIn_wide.2 (isPlain_any T a c _ hx (by exact S0.reads 2 rfl))).mono ?_⟩
      rw [HP.out]
      rintro e w1 ⟨rfl, hb⟩
      have z1 : w.heap.size + 2 ≤ w1.heap.size := by have := hb.size; simpa using this
      have S1 := S0.below hb
      clear S0 hb
      obtain ⟨y0, y1, y2, y3, y4, y5, yz⟩ := facts3 (S1.cells 1 rfl)
      gi_wp2_with fail
      refine ⟨trivial, (callsIn_wide.2 (contains_any T.zs a c (-1) _ hx (by exact S1.reads 2 rfl))).mono ?_⟩
      rintro e w2 ⟨rfl, rfl⟩
      rw [HD.out]
      gi_wp2_with fail
      refine ⟨trivial, (callsIn_wide.2 (laneOf_any T a c _ (by exact S1.reads 2 rfl) HV.out)).mono ?_⟩
      rintro e w3 ⟨g, rfl, hR, hg, hgo, hb⟩
      have S3 := (((S1.below hb).alloc laneZ 64).setRowAt (c' := laneK g T T.zs.length) (by simp [Far, It.box, It.read]; omega) (by have := S1.size; have := hb.size; omega))
      rw [World.setRow_alloc_new] at S3
      clear S1 hb y0 y1 y2 y3 y4 y5 yz
      dsimp only
      apply_assumption
      refine wide_allocIn rfl 64 rfl laneZ laneZero ?_
      refine wide_storeIn rfl (.tmp 3) (.tmp 17) 64 rfl w3.heap.size 64 laneZ (laneK g T T.zs.length) rfl rfl (heap_alloc_last _ _) (by rw [laneSize, laneK_size]) (by rw [laneZ_size, laneK_size]) (laneK_one g T T.zs.length) ?_
      rw [World.setRow_alloc_new]
      have q0 := (lane_cells (S3.cells 0 rfl)).1
      gi_wp2_with fail
      refine ⟨trivial, (callsIn_wide.2 (ringKeys_any _ _ _ _)).mono ?_⟩
      rintro e w4 ⟨rfl, rfl⟩
      gi_wp2_with fail
      have S4 := S3.alloc #[.slice (some ⟨g, 0, none⟩) T.zs.length T.zs.length] 56
      have z3 : w.heap.size + 2 ≤ w3.heap.size := by have := S3.sz 1 rfl; have := S3.sz 0 rfl; simp at *; omega
      have hR4 : RingAt ((w3.alloc (.cells (laneK g T T.zs.length) 64)).alloc (.cells #[.slice (some ⟨g, 0, none⟩) T.zs.length T.zs.length] 56)) g T := (hR.below (((Below.refl _ w3).alloc (Nat.le_refl _) _).alloc (by simp) _) hg)
      have hL4 : Laid ((w3.alloc (.cells (laneK g T T.zs.length) 64)).alloc (.cells #[.slice (some ⟨g, 0, none⟩) T.zs.length T.zs.length] 56)) := hL.below S4.old hL.pos
      simp only [World.size_alloc] at S4
      generalize hW4 : (w3.alloc (.cells (laneK g T T.zs.length) 64)).alloc (.cells #[.slice (some ⟨g, 0, none⟩) T.zs.length T.zs.length] 56) = W4 at S4 hR4 hL4 ⊢
      have z4 : W4.heap.size = w3.heap.size + 2 := by rw [← hW4]; simp
      clear hW4 hR S3 q0
      have hB1 := (facts1 (S4.cells 0 rfl)).1
      refine wpIn_rangeFunc_ownG (n := 9) rfl (by omega) (gf := 130) (lb := #[.pointer (some ⟨w3.heap.size + 1, 0, none⟩)]) rfl trivial (enters_of Tryz.func130 (by kernel_rfl) rfl)
        (ringKeysM_stops 8 (by omega) (w3.heap.size + 1) g T (by omega) W4 (by omega) (by omega) hB1 hR4) KeepBlock.trans (fun W l o o' hl h _ _ => ⟨by simp, keep_put (by omega)⟩) (Below.refl _ _) (fun _ => rfl)
        (fun pre W => Below W4.heap.size W4 W ∧ ∀ x ∈ pre, goodK T x.1 = true)
        (fun c pre W => FairOut T w W4.heap.size c W)
        (OwnFrom.and (ownFrom_below (Nat.le_refl _) (Nat.le_refl _)) (fun _ _ _ _ h _ _ => h))
        (fun c => FairOut.own (by omega) c)
        ⟨Below.refl _ _, fun x hx => by cases hx⟩
        (fun x => { tmps := #[tabV T a c, .pointer (some ⟨w.heap.size, 0, none⟩), .pointer (some ⟨w.heap.size + 1, 0, none⟩), .pointer (some ⟨w3.heap.size, 0, none⟩), .int .i64 x.1, undef, undef, .agg #[.int .i64 T.t, .int .i64 T.p, .slice a T.zs.length c], .bool true, .bool false, .bool false, .pointer (some ⟨w.heap.size, 2, none⟩), .slice a T.zs.length c, .bool true, .bool false, .bool false, .agg #[.int .i64 T.t, .int .i64 T.p, .slice a T.zs.length c], .agg (laneK g T T.zs.length), .pointer (some ⟨w3.heap.size, 0, none⟩), .slice (some ⟨g, 0, none⟩) T.zs.length T.zs.length, .func (.func 130) #[] #[.pointer (some ⟨w3.heap.size + 1, 0, none⟩)], .int .i64 x.1, undef, undef, undef, undef, undef, undef, undef, undef, undef, undef, undef, undef, undef, undef, undef, undef, undef], defers := [] }) ?assign ?body ?done ?stop
      case assign =>
        intro l x W K hK
        gi_wp2
        exact hK
      case body =>
        rintro l pre x W ⟨hB, hgd⟩ hlt
        obtain ⟨k, hk, hf1, hf2, hxk, x0, x9⟩ := key_slot HS.out x.2
        have SW := S4.below hB
        have LW := hL4.below hB (by have := hL.pos; omega)
        have RW := hR4.below hB (by omega)
        have zW := hB.size
        obtain ⟨y0, y1, y2, y3, y4, y5, yz⟩ := facts3 (SW.cells 3 rfl)
        have HX := Lib.hid x.2
        have HG : Hid (goodK T x.1 = decide ((passN T x.1 : Int) = awayOf T k)) := Lib.hid (by unfold goodK; rw [hf2])
        generalize hxx : x.1 = xv at *
        gi_wp2_with fail
        refine ⟨trivial, (CallsIn.inRound l (callsIn_wide.2 (FindKey_any T a c xv _ hx (by exact SW.reads 4 rfl) LW))).mono ?_⟩
        rw [hf1]
        rintro e w5 ⟨rfl, hb5⟩
        gi_wp2_with fail
        have S5 := SW.below hb5
        have R5 := RW.below hb5 (by omega)
        have z5 := hb5.size
        have hLN := S5.cells 1 rfl
        obtain ⟨_, LC, _⟩ := lane_cells hLN
        obtain ⟨_, _, e2⟩ := lzk_at T T.zs.length k hk
        have c2 := LC (k * 3 + 2) (by omega)
        rw [e2] at c2
        obtain ⟨y0, y1, y2, y3, y4, y5, yz⟩ := facts3 (S5.cells 3 rfl)
        have hmix : Tryz.prog.follows .mixedOrders = true := by kernel_rfl
        have k0 : (0 : Int) ≤ (k : Int) := by omega
        have k1 : (k : Int) < 16 := by omega
        rw [show k * 3 + 2 + 1 = 1 + k * 3 + 2 by omega] at c2
        have HST := Lib.hid fun (W' : World) (h : Below w5.heap.size w5 W') => startOf_any T a c xv W' HV.out x0 x9 (by exact (S5.below h).reads 4 rfl)
        have HPA := Lib.hid fun (W' : World) (h : Below w5.heap.size w5 W') => passed_any T g xv W' HV.out (R5.below h (by omega)) (Nat.lt_of_lt_of_le (by omega : g < w5.heap.size) h.size)
        clear LC e2
        generalize awayOf T (k : Int) = aw at *
        generalize passN T xv = pv at *
        generalize homeN T xv = hv at *
        refine wpIn_region_quietR (fun w' => Below w5.heap.size w5 w') hmix (by kernel_rfl) (by kernel_rfl) ((Below.refl _ _).drew) ?_
        refine wpQuietIn_step (fun _ _ _ _ => trivial) (fun K hK => ?_)
        rw [if_pos (by rfl)]
        refine ⟨.agg (laneK g T T.zs.length), quiet_load fun w' hb => wide_load_run (.tmp 3) 64 rfl w3.heap.size 64 _ (0, 0) _ rfl ((hb.block _ (by omega)).trans hLN) Tryz.underlying64 rfl (by rw [laneSize, laneK_size]), hK _ ?_⟩
        clear hK K
        refine wpQuietIn_step (fun _ _ _ _ => trivial) (fun K hK => ?_)
        go_simp
        refine ⟨tabV T a c, fun w' hb => ?_, hK _ ?_⟩
        · have q0 := (hb.cell (p := ⟨w.heap.size, 0, none⟩) (by show w.heap.size < _; omega)).trans y0
          have q1 := (hb.cell (p := ⟨w.heap.size, 1, none⟩) (by show w.heap.size < _; omega)).trans y1
          have q2 := (hb.cell (p := ⟨w.heap.size, 2, none⟩) (by show w.heap.size < _; omega)).trans y2
          unfold tabV
          go_simp
        clear hK K
        refine wpQuietIn_step (fun _ _ _ _ => trivial) (fun K hK => ?_)
        go_simp
        refine ⟨_, fun w' hb => rfl, hK _ ?_⟩
        clear hK K
        refine wpQuietIn_step (fun _ _ _ _ => trivial) (fun K hK => ?_)
        go_simp
        refine ⟨spotV xv hv 0, fun w' hb => (CallsIn.inRound l (callsIn_wide.2 (HST.out w' hb))).mono ?_, hK _ ?_⟩
        · rintro e w6 ⟨rfl, hb6⟩
          exact ⟨rfl, hb.trans (hb6.mono hb.size)⟩
        clear hK K
        refine wpQuietIn_step (fun _ _ _ _ => trivial) (fun K hK => ?_)
        go_simp
        refine ⟨.int .i64 pv, fun w' hb => (CallsIn.inRound l (callsIn_wide.2 (HPA.out w' hb))).mono ?_, hK _ ?_⟩
        · rintro e w6 ⟨rfl, hb6⟩
          exact ⟨rfl, hb.trans (hb6.mono hb.size)⟩
        clear hK K
        refine wpQuietIn_step (fun _ _ _ _ => trivial) (fun K hK => ?_)
        go_simp
        refine ⟨_, fun w' hb => rfl, hK _ ?_⟩
        clear hK K
        refine wpQuietIn_step (fun _ _ _ _ => trivial) (fun K hK => ?_)
        go_simp
        refine ⟨_, fun w' hb => rfl, hK _ ?_⟩
        clear hK K
        refine wpQuietIn_step (fun _ _ _ _ => trivial) (fun K hK => ?_)
        go_simp
        refine ⟨_, fun w' hb => rfl, hK _ ?_⟩
        clear hK K
        refine wpQuietIn_step (fun _ _ _ _ => trivial) (fun K hK => ?_)
        go_simp
        refine ⟨_, fun w' hb => rfl, hK _ ?_⟩
        clear hK K
        refine wpQuietIn_step (fun _ _ _ _ => trivial) (fun K hK => ?_)
        go_simp
        refine ⟨.int .i64 aw, fun w' hb => ?_, hK _ ?_⟩
        · have q0 := (hb.cell (p := ⟨w3.heap.size, 1 + k * 3 + 2, none⟩) (by show w3.heap.size < _; omega)).trans c2
          go_simp
        clear hK K
        refine wpQuietIn_step (fun _ _ _ _ => trivial) (fun K hK => ?_)
        go_simp
        refine ⟨_, fun w' hb => rfl, hK _ ?_⟩
        clear hK K
        refine wpQuietIn_nil ?_
        rintro w6 hb6
        have B6 : Below W4.heap.size W4 w6 := (hB.trans (hb5.mono hB.size)).trans (hb6.mono (by omega))
        have KF : KeepsFrom W4.heap.size W w6 := keepsF_below (hb5.trans (hb6.mono z5))
        have KG : KeepBlock g W w6 := KeepBlock.of_below (hb5.trans (hb6.mono z5)) (by omega)
        have z6 := hb6.size
        clear HST HPA y0 y1 y2 y3 y4 y5 yz c2 SW LW RW R5 hLN
        cases hq : ((pv : Int) != aw)
        · have hg1 : goodK T xv = true := by rw [HG.out]; simpa using hq
          gi_wp2_with fail
          exact ⟨KF, KG, B6, fun y hy => by
            rcases List.mem_append.1 hy with hy | hy
            · exact hgd y hy
            · rw [List.mem_singleton.1 hy, hxx]; exact hg1⟩
        · have hg1 : goodK T xv = false := by rw [HG.out]; simpa using hq
          have S6 := S5.below hb6
          have S7 := S6.setBoxAt 2 rfl 0 (.bool false) (setCell_one0 (S6.cells 2 rfl) _) (by simp [Far, It.box, It.read]; omega) (by omega)
          have O7 : Hid (FairOut T w W4.heap.size .ret (w6.setCell ⟨w.heap.size + 1, 0, none⟩ (.bool false))) := Lib.hid ⟨rfl, by
            rw [HK.out]
            exact all_false HX.out hg1, S7.turn (fun i hi => by
            simp only [List.mem_cons, List.not_mem_nil, or_false] at hi
            subst hi; simp), by have := B6.size; simpa [World.setCell] using this⟩
          have K7 : Hid (KeepsFrom W4.heap.size W (w6.setCell ⟨w.heap.size + 1, 0, none⟩ (.bool false))) := Lib.hid (KF.trans ((KeepsOthers.setCell _ _ _).from _))
          obtain ⟨r0, r1, rz⟩ := facts1 (S6.cells 2 rfl)
          gi_wp2_with fail
          exact ⟨K7.out, O7.out⟩
      case done =>
        rintro D ys W hD hys ⟨hB, hgd⟩ hK
        have hfa : fairB T = true := by
          rw [HK.out, ← hys, List.all_eq_true]
          intro x hx
          obtain ⟨y, hy, rfl⟩ := List.mem_map.1 hx
          exact hgd y hy
        have HFA := Lib.hid hfa
        have SW := S4.below hB
        have S7 := SW.setBoxAt 2 rfl 0 (.bool true) (setCell_one0 (SW.cells 2 rfl) _) (by simp [Far, It.box, It.read]; omega) (by omega)
        have hK' : (W.setCell ⟨w.heap.size + 1, 0, none⟩ (.bool true)).heap[D]? = some (.deferred (some [])) := (KeepsOthers.setCell _ _ _).same D _ hK rfl
        have S8 : St w (W.setCell ⟨w.heap.size + 1, 0, none⟩ (.bool true)) [It.box (w.heap.size + 1) #[.bool true] 4] := S7.turn (fun i hi => by
            simp only [List.mem_cons, List.not_mem_nil, or_false] at hi
            subst hi; simp)
        have S10 := st_put (o := .deferred none) S8 (B := w.heap.size + 2) (D := D) (by simp [It.box]) (by omega) (by omega)
        obtain ⟨r0, r1, rz⟩ := facts1 (SW.cells 2 rfl)
        clear hfa hgd
        gi_wp2_with fail
        refine ⟨by simp, .inl ⟨_, _, rfl, run_takeDeferred hK', ?_⟩⟩
        obtain ⟨a0, _, _⟩ := facts1 (S10.cells 0 rfl)
        exact ⟨.bool true, by simp [results, Tryz.f54, Tryz.results54, go_sem, a0], by rw [HFA.out], S10.old⟩
      case stop =>
        rintro D c' pre W hD _ ⟨rfl, hfa, Sx, hz⟩ hK
        have HFA := Lib.hid hfa
        have S10 := st_put (o := .deferred none) Sx (B := w.heap.size + 2) (D := D) (by simp [It.box]) (by omega) (by omega)
        clear hfa
        gi_wp2_with fail
        refine ⟨by simp, .inl ⟨_, _, rfl, run_takeDeferred hK, ?_⟩⟩
        obtain ⟨a0, _, _⟩ := facts1 (S10.cells 0 rfl)
        exact ⟨.bool false, by simp [results, Tryz.f54, Tryz.results54, go_sem, a0], by rw [HFA.out], S10.old⟩

end Go.Proofs.YtalehninmdcoeaaGreatDoor
end

section
namespace Go.Proofs.YtalehninmdcoeaaGreatDoor
open Go.RowKit Go.Shelf
attribute [local go_sem] Oper.semAt_some

theorem fair_valid {T : Tab} (h : fairB T = true) : validB T = true := (plain_parts (fair_parts h).1).2.1

set_option maxRecDepth 100000 in
set_option maxHeartbeats 4000000 in
theorem FairVisits_any (T : Tab) (a : Option Addr) (c : Nat) (key : Int) (w : World) (hx : T.zs.length ≤ 9223372036854775807) (h1 : IntsAt w a T.zs) (hL : Laid w) :
    Calls Tryz.prog 12 #[tabV T a c, .int .i64 key] w fun e w' => e = .returned (.int .i64 (fairVis T key)) ∧ Below w.heap.size w w' := by
  have S0 := tabBox c 25 h1
  have HF : Hid (fairVis T key = if fairB T && inB key 0 99 then (passN T key : Int) + 1 else -1) := Lib.hid rfl
  have hL0 := hL.below S0.old hL.pos
  cases hf : fairB T
  · go_enter Tryz.func12, Tryz.ntmps12
    go_wp2_with fail
    refine (IsFair_any T a c _ hx (by exact S0.reads 1 rfl) hL0).mono ?_
    rw [hf]
    rintro e w1 ⟨rfl, hb⟩
    have S1 := S0.below hb
    go_wp2
    go_ret
    exact ⟨by rw [HF.out, hf]; rfl, S1.old⟩
  · cases hk : inB key 0 99
    · go_enter Tryz.func12, Tryz.ntmps12
      go_wp2_with fail
      refine (IsFair_any T a c _ hx (by exact S0.reads 1 rfl) hL0).mono ?_
      rw [hf]
      rintro e w1 ⟨rfl, hb⟩
      have S1 := S0.below hb
      go_wp2_with fail
      refine (isKey_any _ _).mono ?_
      rw [hk]
      rintro e w2 ⟨rfl, rfl⟩
      go_wp2
      go_ret
      exact ⟨by rw [HF.out, hf, hk]; rfl, S1.old⟩
    · have hv := fair_valid hf
      obtain ⟨⟨l1, l2⟩, _⟩ := valid_facts hv
      obtain ⟨k0, k9⟩ := inB_iff.1 hk
      have hpn : passN T key ≤ 16 := Nat.le_trans (goN_le _ _) l2
      have HV := Lib.hid hv
      have HFB := Lib.hid hf
      have HKB := Lib.hid hk
      have HE : Hid (fairVis T key = (passN T key : Int) + 1) := Lib.hid (by rw [HF.out, hf, hk]; rfl)
      clear hf hk hv HF
      go_enter Tryz.func12, Tryz.ntmps12
      go_wp2_with fail
      refine (IsFair_any T a c _ hx (by exact S0.reads 1 rfl) hL0).mono ?_
      rw [HFB.out]
      rintro e w1 ⟨rfl, hb⟩
      have S1 := S0.below hb
      clear S0 hb hL0
      go_wp2_with fail
      refine (isKey_any _ _).mono ?_
      rw [HKB.out]
      rintro e w2 ⟨rfl, rfl⟩
      go_wp2_with fail
      obtain ⟨x0, x1, x2, x3, x4, x5, xz⟩ := facts3 (S1.cells 0 rfl)
      have HST := Lib.hid fun (W' : World) (h : IntsAt W' a T.zs) => startOf_any T a c key W' HV.out k0 k9 h
      have HPA := Lib.hid fun (g : Nat) (W' : World) (hR : RingAt W' g T) (hg : g < W'.heap.size) => passed_any T g key W' HV.out hR hg
      generalize passN T key = pv at *
      generalize homeN T key = hv at *
      clear hL
      go_region_held3 (fun w' => w'.cell? ⟨w.heap.size, 0, none⟩ = some (.int .i64 T.t) ∧ w'.cell? ⟨w.heap.size, 1, none⟩ = some (.int .i64 T.p) ∧ w'.cell? ⟨w.heap.size, 2, none⟩ = some (.slice a T.zs.length c))
        (first
          | exact ⟨x0, x1, x2⟩
          | exact S2.three 0 rfl
          | exact S3.three 0 rfl
          | exact S4.three 0 rfl)
        (first
          | (go_at_call 57; refine (laneOf_any T a c _ (by exact S1.drew.reads 1 rfl) HV.out).mono ?_; rintro e w2 ⟨g, rfl, hR, hg, hgo, hb⟩; have S2 := S1.drew.below hb; clear hb)
          | (go_at_call 59; refine (HST.out _ (by exact S2.reads 1 rfl)).mono ?_; rintro e w3 ⟨rfl, hb⟩; have S3 := S2.below hb; have R3 := hR.below hb hg; have hg3 := Nat.lt_of_lt_of_le hg hb.size; clear hb)
          | (go_at_call 58; refine (HPA.out g _ R3 hg3).mono ?_; rintro e w4 ⟨rfl, hb⟩; have S4 := S3.below hb; clear hb))
      have HW : Hid (IntKind.i64.wrap ((pv : Int) + 1) = (pv : Int) + 1) := Lib.hid (IntWalk.i64_in _ (by omega))
      go_wp2_with fail
      refine bodyPost_ret (v := .int .i64 ((pv : Int) + 1)) (by simp [results, Tryz.results12, go_sem]; exact HW.out) rfl ⟨by rw [HE.out], S4.old⟩

end Go.Proofs.YtalehninmdcoeaaGreatDoor
end

/-
  laneOf: a ring in which keys go from their homes on, with how far each lies from its home.
-/
import Derived.Test.YtdoodkdlfkekmaaDoorWide
import Derived.Test.YtdoodkdlfkekmaaDoorBase
import Derived.Test.YtdoodkdlfkekmaaDoorAway
import Derived.Test.YtdoodkdlfkekmaaDoorCopyRow
import Derived.Test.YtdoodkdlfkekmaaDoorLook
import Derived.Test.YtdoodkdlfkekmaaDoorMath
namespace Go.Proofs.YtdoodkdlfkekmaaDoor
open Go.RowKit

/-- What cell j of the spots holds, when the first k slots have theirs: held, home, away. -/
def lzk (T : Tab) (k j : Nat) : Int := if j / 3 < k then (if j % 3 = 0 then nth T.zs (j / 3) else if j % 3 = 1 then homeT T (nth T.zs (j / 3)) else awayOf T ((j / 3 : Nat) : Int)) else 0
theorem lzk_at (T : Tab) (k s : Nat) (hs : s < k) : lzk T k (s * 3) = nth T.zs s ∧ lzk T k (s * 3 + 1) = homeT T (nth T.zs s) ∧ lzk T k (s * 3 + 2) = awayOf T (s : Int) := by
  unfold lzk
  have e0 : s * 3 / 3 = s := by omega
  have e1 : (s * 3 + 1) / 3 = s := by omega
  have e2 : (s * 3 + 2) / 3 = s := by omega
  have f0 : s * 3 % 3 = 0 := by omega
  have f1 : (s * 3 + 1) % 3 = 1 := by omega
  have f2 : (s * 3 + 2) % 3 = 2 := by omega
  rw [e0, e1, e2, f0, f1, f2]
  simp [hs]
theorem lzk_other (T : Tab) (k j : Nat) (h : j / 3 ≠ k) : lzk T (k + 1) j = lzk T k j := by
  unfold lzk
  by_cases c : j / 3 < k
  · rw [if_pos c, if_pos (by omega)]
  · rw [if_neg c, if_neg (by omega)]

/-- A lane as a value, when the first k slots have their spots. -/
def laneK (g : Nat) (T : Tab) (k : Nat) : Array Value := #[.slice (some ⟨g, 0, none⟩) T.zs.length T.zs.length] ++ ((List.range 48).map fun j => Value.int .i64 (lzk T k j)).toArray
def laneZ : Array Value := #[.slice none 0 0] ++ Array.replicate 48 (.int .i64 0)
theorem laneZ_size : laneZ.size = 49 := by simp [laneZ]
theorem laneK_size (g : Nat) (T : Tab) (k : Nat) : (laneK g T k).size = 49 := by simp [laneK]
theorem laneK_one (g : Nat) (T : Tab) (k : Nat) : (laneK g T k).all (·.oneCell') = true := by
  rw [Array.all_eq_true_iff_forall_mem]
  intro x hx
  simp only [laneK, Array.mem_append, List.mem_toArray, List.mem_map, List.mem_singleton, Array.mem_singleton] at hx
  rcases hx with rfl | ⟨j, _, rfl⟩ <;> rfl
theorem laneK_ring (g : Nat) (T : Tab) (k : Nat) : (laneK g T k)[0]? = some (.slice (some ⟨g, 0, none⟩) T.zs.length T.zs.length) := by simp [laneK]
theorem laneK_at (g : Nat) (T : Tab) (k : Nat) {j : Nat} (hj : j < 48) : (laneK g T k)[j + 1]? = some (.int .i64 (lzk T k j)) := by
  unfold laneK
  rw [Array.getElem?_append_right (by simp)]
  simp [hj]
theorem laneK_zero (g : Nat) (T : Tab) : laneK g T 0 = #[.slice (some ⟨g, 0, none⟩) T.zs.length T.zs.length] ++ Array.replicate 48 (.int .i64 0) := by
  unfold laneK
  congr 1
theorem laneK_set (g : Nat) (T : Tab) {k : Nat} (hk : k < 16) :
    (((laneK g T k).setIfInBounds (1 + k * 3) (.int .i64 (nth T.zs k))).setIfInBounds (1 + k * 3 + 1) (.int .i64 (homeT T (nth T.zs k)))).setIfInBounds (1 + k * 3 + 2) (.int .i64 (awayOf T (k : Int))) = laneK g T (k + 1) := by
  obtain ⟨e0, e1, e2⟩ := lzk_at T (k + 1) k (by omega)
  apply Array.ext_getElem?
  intro i
  rw [Array.getElem?_setIfInBounds, Array.getElem?_setIfInBounds, Array.getElem?_setIfInBounds]
  simp only [Array.size_setIfInBounds, laneK_size]
  by_cases h0 : i = 0
  · subst h0
    rw [if_neg (by omega), if_neg (by omega), if_neg (by omega), laneK_ring, laneK_ring]
  obtain ⟨j, rfl⟩ : ∃ j, i = j + 1 := ⟨i - 1, by omega⟩
  by_cases hj : j < 48
  · rw [laneK_at g T (k + 1) hj, laneK_at g T k hj]
    by_cases c2 : j = k * 3 + 2
    · subst c2
      rw [if_pos (by omega), if_pos (by omega), e2]
    · rw [if_neg (by omega)]
      by_cases c1 : j = k * 3 + 1
      · subst c1
        rw [if_pos (by omega), if_pos (by omega), e1]
      · rw [if_neg (by omega)]
        by_cases c0 : j = k * 3
        · subst c0
          rw [if_pos (by omega), if_pos (by omega), e0]
        · rw [if_neg (by omega), lzk_other T k j (by omega)]
  · rw [if_neg (by omega), if_neg (by omega), if_neg (by omega), Array.getElem?_eq_none (by rw [laneK_size]; omega), Array.getElem?_eq_none (by rw [laneK_size]; omega)]

/-- The cells of a lane in its block. -/
theorem lane_cells {w : World} {b g k : Nat} {T : Tab} {t : TypeId} (h : w.heap[b]? = some (.cells (laneK g T k) t (0, 0))) :
    w.cell? ⟨b, 0, none⟩ = some (.slice (some ⟨g, 0, none⟩) T.zs.length T.zs.length) ∧ (∀ j, j < 48 → w.cell? ⟨b, j + 1, none⟩ = some (.int .i64 (lzk T k j))) ∧ ∀ i, w.frozen? ⟨b, i, none⟩ = false := by
  refine ⟨by unfold World.cell?; simp only [h]; exact laneK_ring g T k, fun j hj => by unfold World.cell?; simp only [h]; exact laneK_at g T k hj, fun i => by unfold World.frozen?; simp [h]⟩

/-- Three cells of a box that is an item are set. -/
theorem St.set3At {w0 w : World} {l : List It} {b : Nat} {c : Array Value} {t : TypeId} (h : St w0 w l) (n : Nat) (hn : l[n]? = some (It.box b c t)) (o : Nat) (x y z : Value) (hf : ∀ c', Far (It.box b c' t) (l.eraseIdx n)) (hlo : w0.heap.size ≤ b) :
    St w0 (((w.setCell ⟨b, o, none⟩ x).setCell ⟨b, o + 1, none⟩ y).setCell ⟨b, o + 2, none⟩ z) (l.set n (It.box b (((c.setIfInBounds o x).setIfInBounds (o + 1) y).setIfInBounds (o + 2) z) t)) := by
  have hl := (List.getElem?_eq_some_iff.1 hn).1
  have S1 := h.setBoxAt n hn o x (setCell_inRow (h.cells n hn) o x) (hf _) hlo
  have h1 : (l.set n (It.box b (c.setIfInBounds o x) t))[n]? = some (It.box b (c.setIfInBounds o x) t) := by simp [hl]
  have S2 := S1.setBoxAt n h1 (o + 1) y (setCell_inRow (S1.cells n h1) (o + 1) y) (by rw [List.eraseIdx_set_eq]; exact hf _) hlo
  rw [List.set_set] at S2
  have h2 : (l.set n (It.box b ((c.setIfInBounds o x).setIfInBounds (o + 1) y) t))[n]? = some (It.box b ((c.setIfInBounds o x).setIfInBounds (o + 1) y) t) := by simp [hl]
  have S3 := S2.setBoxAt n h2 (o + 2) z (setCell_inRow (S2.cells n h2) (o + 2) z) (by rw [List.eraseIdx_set_eq]; exact hf _) hlo
  rw [List.set_set] at S3
  exact S3

theorem ring_setRow {w : World} {g b : Nat} {T : Tab} (h : RingAt w g T) (hne : b ≠ g) (c : Array Value) : RingAt (w.setRow b c) g T := fun i hi => by
  have := h i hi
  simpa [World.cell?, World.setRow, Array.getElem?_modify, hne] using this

theorem infoL : (Tryd.prog.info? 48).map (fun i => (i.zero, i.size)) = some (some (.agg laneZ), 49) := by kernel_rfl
theorem laneSize : (Tryd.prog.info? 48).map (·.size) = some 49 := (zero_of_info infoL).2
theorem laneZero : ∀ w, (zeroValue 48).run Tryd.prog w = .ok (.agg laneZ) w := (zero_of_info infoL).1
theorem laneBuild (g : Nat) (T : Tab) (w : World) : (Instr.build 48 #[(0, .slice (some ⟨g, 0, none⟩) T.zs.length T.zs.length)]).run Tryd.prog w = .ok (.agg (laneK g T 0)) w := by
  rw [laneK_zero]
  kernel_rfl
theorem wide_build {P : Program} {ops : Array Oper} {rest : List Oper} {o : Oper} {a : Act} {Q : Exit → Act → World → Prop} {w : World} (hgd : o.guard = none) (ty : TypeId) (x : Operand) (ho : o.op = Op.build ty #[(0, x)]) (v u : Value) (hu : a.eval x = u)
    (hr : (Instr.build ty #[(0, u)]).run P w = .ok v w) (h : wpList P ops Q rest (a.put o.dst v) w) : wpList P ops Q (o :: rest) a w := by
  refine wide_value hgd _ _ ?_ h
  simp [execOp, ho, hu, hr, Result.andThen]

set_option maxRecDepth 100000 in
set_option maxHeartbeats 1000000 in
theorem laneOf_any (T : Tab) (a : Option Addr) (c : Nat) (w : World) (h1 : IntsAt w a T.zs) (hv : validB T = true) :
    Calls Tryd.prog 18 #[tabV T a c] w fun e w' => ∃ g, e = .returned (.agg (laneK g T T.zs.length)) ∧ RingAt w' g T ∧ g < w'.heap.size ∧ w.heap.size ≤ g ∧ Below w.heap.size w w' := by
  obtain ⟨⟨l1, l2⟩, _⟩ := valid_facts hv
  have S0 := (((St.start w).read h1).alloc #[.int .i64 T.t, .int .i64 T.p, .slice a T.zs.length c] 27).alloc laneZ 48
  rw [World.size_alloc] at S0
  go_enter Tryd.func18, Tryd.ntmps18
  go_wp2_with (refine wide_alloc rfl 48 rfl laneZ laneZero ?_)
  refine (ringOf_any T a c _ (by exact S0.reads 2 rfl) hv).mono ?_
  rintro e w1 ⟨g, rfl, hg0, hg, hr, hb⟩
  simp only [World.size_alloc] at hg0
  have S1 := S0.below hb
  have hz1 := S1.old.size
  clear S0 hb
  have S3 := ((St.start w1).alloc laneZ 48).setRowAt (c' := laneK g T 0) trivial (Nat.le_refl _)
  rw [World.setRow_alloc_new] at S3
  have q0 := (lane_cells (S3.cells 0 rfl)).1
  dsimp only
  apply_assumption
  refine wide_build rfl 48 (.tmp 7) rfl (.agg (laneK g T 0)) (.slice (some ⟨g, 0, none⟩) T.zs.length T.zs.length) rfl (laneBuild g T _) ?_
  refine wide_alloc rfl 48 rfl laneZ laneZero ?_
  refine wide_store rfl (.tmp 3) (.tmp 8) 48 rfl w1.heap.size 48 laneZ (laneK g T 0) rfl rfl (heap_alloc_last _ _) (by rw [laneSize, laneK_size]) (by rw [laneZ_size, laneK_size]) (laneK_one g T 0) ?_
  rw [World.setRow_alloc_new]
  go_wp2_with fail
  go_loopw [4, 5, 12] (fun _ _ i wr => ∃ k : Nat, k ≤ T.zs.length ∧ i = .int .i64 k ∧ St w1 wr [It.box w1.heap.size (laneK g T k) 48]) (fun _ _ i _ => T.zs.length - (intOf i).toNat)
  case atStart => exact ⟨0, Nat.zero_le _, rfl, S3⟩
  case round =>
    obtain ⟨k, hk, rfl, Sr⟩ := hrel
    clear S3 q0
    by_cases hlt : k < T.zs.length
    · obtain ⟨r0, r1⟩ := (hr.below Sr.old hg) k hlt
      have SO := S1.below Sr.old
      have zr : w1.heap.size + 1 ≤ wr.heap.size := Sr.sz 0 rfl
      have k16 : k < 16 := by omega
      have j0 : (0 : Int) ≤ (k : Int) := by omega
      have j1 : (k : Int) < 16 := by omega
      have HX : Hid ((((laneK g T k).setIfInBounds (1 + k * 3) (.int .i64 (nth T.zs k))).setIfInBounds (1 + k * 3 + 1) (.int .i64 (homeT T (nth T.zs k)))).setIfInBounds (1 + k * 3 + 2) (.int .i64 (awayOf T (k : Int))) = laneK g T (k + 1)) := Lib.hid (laneK_set g T k16)
      have HA := Lib.hid fun (W : World) (h : IntsAt W a T.zs) => AwayOf_any T a c (k : Int) W (by omega) h
      generalize awayOf T (k : Int) = aw at HX HA
      generalize nth T.zs k = x at r0 r1 HX
      generalize homeT T x = hx at r1 HX
      have SC := SO.alloc #[.int .i64 x, .int .i64 hx] 43
      obtain ⟨x0, x1, x2, x3, x4, x5, xz⟩ := facts3 (SC.cells 2 rfl)
      have SL := (Sr.alloc #[.int .i64 x, .int .i64 hx] 43)
      have SD := SL.drew
      go_wp2_with fail
      go_region_held3 (fun w' => (w'.cell? ⟨w.heap.size, 0, none⟩ = some (.int .i64 T.t) ∧ w'.cell? ⟨w.heap.size, 1, none⟩ = some (.int .i64 T.p) ∧ w'.cell? ⟨w.heap.size, 2, none⟩ = some (.slice a T.zs.length c)) ∧ w'.cell? ⟨wr.heap.size, 0, none⟩ = some (.int .i64 x) ∧ w'.cell? ⟨wr.heap.size, 1, none⟩ = some (.int .i64 hx))
        (first
          | exact ⟨⟨x0, x1, x2⟩, (facts2 (SL.cells 0 rfl)).1, (facts2 (SL.cells 0 rfl)).2.1⟩
          | exact ⟨(S1.below SF.old).three 1 rfl, (facts2 (SF.cells 0 rfl)).1, (facts2 (SF.cells 0 rfl)).2.1⟩
          | exact ⟨(S1.below SE.old).three 1 rfl, (facts2 (SE.cells 0 rfl)).1, (facts2 (SE.cells 0 rfl)).2.1⟩)
        (first
          | (go_at_call 31; refine (HA.out _ (by exact (S1.below SD.old).reads 2 rfl)).mono ?_; rintro e w6 ⟨rfl, hb⟩; have SF := SD.below hb; clear hb; obtain ⟨_, LC, LF⟩ := lane_cells (SF.cells 1 rfl); have c0 : w6.cell? ⟨w1.heap.size, 1 + k * 3, none⟩ = some (.int .i64 (lzk T k (k * 3))) := (by rw [show 1 + k * 3 = k * 3 + 1 from Nat.add_comm _ _]; exact LC (k * 3) (by omega)); have c1 : w6.cell? ⟨w1.heap.size, 1 + k * 3 + 1, none⟩ = some (.int .i64 (lzk T k (k * 3 + 1))) := (by rw [show 1 + k * 3 = k * 3 + 1 from Nat.add_comm _ _]; exact LC (k * 3 + 1) (by omega)); have c2 : w6.cell? ⟨w1.heap.size, 1 + k * 3 + 2, none⟩ = some (.int .i64 (lzk T k (k * 3 + 2))) := (by rw [show 1 + k * 3 = k * 3 + 1 from Nat.add_comm _ _]; exact LC (k * 3 + 2) (by omega)); have f0 := LF (1 + k * 3); have f1 := LF (1 + k * 3 + 1); have f2 := LF (1 + k * 3 + 2); clear LC LF; have SE := SF.set3At 1 rfl (1 + k * 3) (.int .i64 x) (.int .i64 hx) (.int .i64 aw) (fun _ => by simp [Far, It.box] <;> omega) (by omega)))
      have SG : St w1 (((w6.setCell ⟨w1.heap.size, 1 + k * 3, none⟩ (.int .i64 x)).setCell ⟨w1.heap.size, 1 + k * 3 + 1, none⟩ (.int .i64 hx)).setCell ⟨w1.heap.size, 1 + k * 3 + 2, none⟩ (.int .i64 aw)) [It.box wr.heap.size #[.int .i64 x, .int .i64 hx] 43, It.box w1.heap.size ((((laneK g T k).setIfInBounds (1 + k * 3) (.int .i64 x)).setIfInBounds (1 + k * 3 + 1) (.int .i64 hx)).setIfInBounds (1 + k * 3 + 2) (.int .i64 aw)) 48] := SE
      rw [HX.out] at SG
      have SH := SG.turn (l' := [It.box w1.heap.size (laneK g T (k + 1)) 48]) fun i hi => List.mem_cons_of_mem _ hi
      clear SG SE SF SD SL SC SO HX HA x0 x1 x2 x3 x4 x5 xz r0 r1 c0 c1 c2 f0 f1 f2
      go_wp2
      go_roundw
      case rel => exact ⟨k + 1, by omega, by go_num, SH⟩
      case measure => simp [intOf]; omega
    · obtain rfl : k = T.zs.length := by omega
      have SO := S1.below Sr.old
      have SP := SO.setRowAt (c' := laneK g T T.zs.length) (by simp [Far, It.box, It.read] <;> omega) (by omega)
      have hL := Sr.cells 0 rfl
      have hR := ring_setRow (b := w.heap.size + 1) (hr.below Sr.old hg) (by omega) (laneK g T T.zs.length)
      have hz2 := SP.old.size
      have hgz : g < (wr.setRow (w.heap.size + 1) (laneK g T T.zs.length)).heap.size := by have := Sr.old.size; simp [World.setRow]; omega
      go_wp2_with (first
        | refine wide_load rfl (.tmp 3) 48 rfl w1.heap.size 48 (laneK g T T.zs.length) (0, 0) _ rfl hL Tryd.underlying48 rfl (by rw [laneSize, laneK_size]) ?_
        | refine wide_store rfl (.tmp 2) (.tmp 26) 48 rfl (w.heap.size + 1) 48 laneZ (laneK g T T.zs.length) rfl rfl (SO.cells 0 rfl) (by rw [laneSize, laneK_size]) (by rw [laneZ_size, laneK_size]) (laneK_one g T T.zs.length) ?_)
      refine bodyPost_ret (v := .agg (laneK g T T.zs.length)) ?_ rfl ⟨g, rfl, hR, hgz, by omega, SP.old⟩
      have hrow := run_loadVar_row (P := Tryd.prog) (wr.setRow (w.heap.size + 1) (laneK g T T.zs.length)) (w.heap.size + 1) 48 48 (laneK g T T.zs.length) (0, 0) _ (SP.cells 0 rfl) Tryd.underlying48 rfl (by rw [laneSize, laneK_size])
      simp [results, Tryd.results18, asAddr, Act.put, Result.andThen, hrow]

end Go.Proofs.YtdoodkdlfkekmaaDoor

/-
  The program's taken slots as an array of bools; slices.Contains and slices.Index at bool.
-/
import Derived.Test.YtpncpeokdcolpaaLook
namespace Go.Proofs.Ytpncpeokdcolpaa
open Go.RowKit Go.Shelf
attribute [local go_sem] Oper.semAt_some

/-- Bools that lie in a block. -/
def BoolsAt (w : World) (b n : Nat) (f : Nat → Bool) : Prop := ∀ i, i < n → w.cell? ⟨b, i, none⟩ = some (.bool (f i))

set_option maxHeartbeats 400000 in
theorem indexB_any (b n c : Nat) (f : Nat → Bool) (v : Bool) (w : World) (hn : n ≤ 1000) (h : BoolsAt w b n f) :
    Calls Try.prog 80 #[.slice (some ⟨b, 0, none⟩) n c, .bool v] w fun e w' => ∃ r : Int, e = .returned (.int .i64 r) ∧ (0 ≤ r ↔ ∃ i, i < n ∧ f i = v) ∧ w = w' := by
  go_enter Try.func80, Try.ntmps80
  go_wp2
  go_loop [5, 8] (fun _ i => ∃ k : Nat, k ≤ n ∧ i = .int .i64 k ∧ (∀ j, j < k → f j ≠ v)) (fun _ i => n - (intOf i).toNat)
  case atStart => exact ⟨0, Nat.zero_le _, rfl, fun _ h => (by omega)⟩
  case round =>
    obtain ⟨k, hk, rfl, hn⟩ := hrel
    have HN := Lib.hid hn
    clear hn
    by_cases hlt : k < n
    · have q := h k hlt
      have X : Hid (f k = f k) := Lib.hid rfl
      obtain ⟨x, hx⟩ : ∃ x, f k = x := ⟨_, rfl⟩
      rw [hx] at q
      have X := Lib.hid hx
      clear hx
      cases he : (v == x)
      · have hne : f k ≠ v := by rw [X.out]; intro e; subst e; simp at he
        have HNE := Lib.hid hne
        clear hne
        go_wp2
        go_round
        case rel => exact ⟨k + 1, by omega, by go_num, fun j hj => by
          rcases Nat.lt_succ_iff_lt_or_eq.1 hj with h1 | rfl
          · exact HN.out j h1
          · exact HNE.out⟩
        case measure => simp [intOf]; omega
      · have heq : f k = v := by rw [X.out]; exact (show v = x by simpa using he).symm
        have F := Lib.hid heq
        clear heq
        go_wp2
        go_ret
        exact ⟨k, rfl, ⟨fun _ => ⟨k, hlt, F.out⟩, fun _ => by omega⟩, rfl⟩
    · go_wp2
      go_ret
      have e : k = n := by omega
      exact ⟨-1, rfl, ⟨fun h => by omega, fun ⟨i, hi, h⟩ => absurd h (HN.out i (by omega))⟩, rfl⟩

theorem containsB_any (b n c : Nat) (f : Nat → Bool) (v : Bool) (w : World) (hn : n ≤ 1000) (h : BoolsAt w b n f) :
    Calls Try.prog 71 #[.slice (some ⟨b, 0, none⟩) n c, .bool v] w fun e w' => e = .returned (.bool (decide (∃ i, i < n ∧ f i = v))) ∧ w = w' := by
  go_enter Try.func71, Try.ntmps71
  go_wp2_with fail
  refine (indexB_any b n c f v _ hn h).mono ?_
  rintro e w2 ⟨r, rfl, hd, rfl⟩
  go_wp2
  go_ret
  exact ⟨ret_bool (by simp only [decide_eq_decide, hd]), rfl⟩

/-- Which of the first k slots are not free. -/
def tk (T : Tab) (k i : Nat) : Bool := decide (i < k) && (nth T.zs i != -1)
def takenA (T : Tab) (k : Nat) : Array Value := #[.bool (tk T k 0), .bool (tk T k 1), .bool (tk T k 2), .bool (tk T k 3), .bool (tk T k 4), .bool (tk T k 5), .bool (tk T k 6), .bool (tk T k 7), .bool (tk T k 8), .bool (tk T k 9), .bool (tk T k 10), .bool (tk T k 11), .bool (tk T k 12), .bool (tk T k 13), .bool (tk T k 14), .bool (tk T k 15)]
theorem takenA_at (T : Tab) (k : Nat) {i : Nat} (hi : i < 16) : (takenA T k)[i]? = some (.bool (tk T k i)) := by
  have : i = 0 ∨ i = 1 ∨ i = 2 ∨ i = 3 ∨ i = 4 ∨ i = 5 ∨ i = 6 ∨ i = 7 ∨ i = 8 ∨ i = 9 ∨ i = 10 ∨ i = 11 ∨ i = 12 ∨ i = 13 ∨ i = 14 ∨ i = 15 := by omega
  rcases this with h | h | h | h | h | h | h | h | h | h | h | h | h | h | h | h <;> subst h <;> rfl
theorem takenA_set {T : Tab} {k : Nat} (_hk : k < 16) : (takenA T k).setIfInBounds k (.bool (nth T.zs k != -1)) = takenA T (k + 1) := by
  apply Array.ext_getElem?
  intro i
  by_cases hi : i < 16
  · rw [Array.getElem?_setIfInBounds, takenA_at T (k + 1) hi, takenA_at T k hi]
    by_cases e : k = i
    · subst e
      simp [tk, takenA, hi]
    · rw [if_neg e]
      simp only [tk]
      congr 3
      simp
      omega
  · rw [Array.getElem?_eq_none (by simp [takenA]; omega), Array.getElem?_eq_none (by simp [takenA]; omega)]
theorem takenA_zero (T : Tab) : takenA T 0 = Array.replicate 16 (.bool false) := by simp [takenA, tk, Array.replicate]
theorem setCell_arr {w : World} {b : Nat} {c : Array Value} {t : TypeId} (h : w.heap[b]? = some (.cells c t (0, 0))) (o : Nat) (v : Value) : (w.setCell ⟨b, o, none⟩ v).heap[b]? = some (.cells (c.setIfInBounds o v) t (0, 0)) := by
  simp [World.setCell, Array.getElem?_modify, h]
theorem boolsAt_of {w : World} {b : Nat} {T : Tab} {k : Nat} {t : TypeId} (h : w.heap[b]? = some (.cells (takenA T k) t (0, 0))) : BoolsAt w b 16 (tk T k) := by
  intro i hi
  simp [World.cell?, h, takenA_at T k hi]

/-- All sixteen cells of a block are set. -/
theorem set16 {w : World} {b : Nat} {x : Value} {t : TypeId} (h : w.heap[b]? = some (.cells (Array.replicate 16 x) t (0, 0))) (v0 v1 v2 v3 v4 v5 v6 v7 v8 v9 v10 v11 v12 v13 v14 v15 : Value) :
    ((((((((((((((((w.setCell ⟨b, 0, none⟩ v0).setCell ⟨b, 1, none⟩ v1).setCell ⟨b, 2, none⟩ v2).setCell ⟨b, 3, none⟩ v3).setCell ⟨b, 4, none⟩ v4).setCell ⟨b, 5, none⟩ v5).setCell ⟨b, 6, none⟩ v6).setCell ⟨b, 7, none⟩ v7).setCell ⟨b, 8, none⟩ v8).setCell ⟨b, 9, none⟩ v9).setCell ⟨b, 10, none⟩ v10).setCell ⟨b, 11, none⟩ v11).setCell ⟨b, 12, none⟩ v12).setCell ⟨b, 13, none⟩ v13).setCell ⟨b, 14, none⟩ v14).setCell ⟨b, 15, none⟩ v15).heap[b]? = some (.cells #[v0, v1, v2, v3, v4, v5, v6, v7, v8, v9, v10, v11, v12, v13, v14, v15] t (0, 0)) := by
  have := setCell_arr (setCell_arr (setCell_arr (setCell_arr (setCell_arr (setCell_arr (setCell_arr (setCell_arr (setCell_arr (setCell_arr (setCell_arr (setCell_arr (setCell_arr (setCell_arr (setCell_arr (setCell_arr h 0 v0) 1 v1) 2 v2) 3 v3) 4 v4) 5 v5) 6 v6) 7 v7) 8 v8) 9 v9) 10 v10) 11 v11) 12 v12) 13 v13) 14 v14) 15 v15
  rw [show ((((((((((((((((Array.replicate 16 x).setIfInBounds 0 v0).setIfInBounds 1 v1).setIfInBounds 2 v2).setIfInBounds 3 v3).setIfInBounds 4 v4).setIfInBounds 5 v5).setIfInBounds 6 v6).setIfInBounds 7 v7).setIfInBounds 8 v8).setIfInBounds 9 v9).setIfInBounds 10 v10).setIfInBounds 11 v11).setIfInBounds 12 v12).setIfInBounds 13 v13).setIfInBounds 14 v14).setIfInBounds 15 v15 = #[v0, v1, v2, v3, v4, v5, v6, v7, v8, v9, v10, v11, v12, v13, v14, v15] from by
    apply Array.ext'
    simp only [Array.toList_setIfInBounds, Array.toList_replicate, List.replicate_succ, List.replicate_zero, List.set_cons_zero, List.set_cons_succ]] at this
  exact this
theorem set16_below {w0 w : World} {b : Nat} (h : Below w0.heap.size w0 w) (hb : w0.heap.size ≤ b) (v0 v1 v2 v3 v4 v5 v6 v7 v8 v9 v10 v11 v12 v13 v14 v15 : Value) :
    Below w0.heap.size w0 ((((((((((((((((w.setCell ⟨b, 0, none⟩ v0).setCell ⟨b, 1, none⟩ v1).setCell ⟨b, 2, none⟩ v2).setCell ⟨b, 3, none⟩ v3).setCell ⟨b, 4, none⟩ v4).setCell ⟨b, 5, none⟩ v5).setCell ⟨b, 6, none⟩ v6).setCell ⟨b, 7, none⟩ v7).setCell ⟨b, 8, none⟩ v8).setCell ⟨b, 9, none⟩ v9).setCell ⟨b, 10, none⟩ v10).setCell ⟨b, 11, none⟩ v11).setCell ⟨b, 12, none⟩ v12).setCell ⟨b, 13, none⟩ v13).setCell ⟨b, 14, none⟩ v14).setCell ⟨b, 15, none⟩ v15) := by
  exact ((((((((((((((((h.setCell (p := ⟨b, 0, none⟩) hb v0).setCell (p := ⟨b, 1, none⟩) hb v1).setCell (p := ⟨b, 2, none⟩) hb v2).setCell (p := ⟨b, 3, none⟩) hb v3).setCell (p := ⟨b, 4, none⟩) hb v4).setCell (p := ⟨b, 5, none⟩) hb v5).setCell (p := ⟨b, 6, none⟩) hb v6).setCell (p := ⟨b, 7, none⟩) hb v7).setCell (p := ⟨b, 8, none⟩) hb v8).setCell (p := ⟨b, 9, none⟩) hb v9).setCell (p := ⟨b, 10, none⟩) hb v10).setCell (p := ⟨b, 11, none⟩) hb v11).setCell (p := ⟨b, 12, none⟩) hb v12).setCell (p := ⟨b, 13, none⟩) hb v13).setCell (p := ⟨b, 14, none⟩) hb v14).setCell (p := ⟨b, 15, none⟩) hb v15)

set_option maxRecDepth 100000 in
set_option maxHeartbeats 2000000 in
theorem taken_any (T : Tab) (g : Nat) (w : World) (hv : validB T = true) (hR : RingAt w g T) (hg : g < w.heap.size) :
    Calls Try.prog 70 #[.slice (some ⟨g, 0, none⟩) T.zs.length T.zs.length] w fun e w' => e = .returned (.agg (takenA T T.zs.length)) ∧ Below w.heap.size w w' := by
  obtain ⟨⟨l1, l2⟩, _⟩ := valid_facts hv
  have S0 := ((St.start w).alloc (Array.replicate 16 (.bool false)) 89).alloc (Array.replicate 16 (.bool false)) 89
  rw [World.size_alloc] at S0
  go_enter Try.func70, Try.ntmps70
  go_wp2_with fail
  go_loopw [4, 5, 8] (fun _ _ i wr => ∃ k : Nat, k ≤ T.zs.length ∧ i = .int .i64 k ∧ St w wr [It.box (w.heap.size + 1) (takenA T k) 89, It.box w.heap.size (Array.replicate 16 (.bool false)) 89]) (fun _ _ i _ => T.zs.length - (intOf i).toNat)
  case atStart => exact ⟨0, Nat.zero_le _, rfl, by rw [takenA_zero]; exact S0⟩
  case round =>
    obtain ⟨k, hk, rfl, Sr⟩ := hrel
    clear S0
    by_cases hlt : k < T.zs.length
    · have k16 : k < 16 := by omega
      obtain ⟨r0, r1⟩ := (hR.below Sr.old hg) k hlt
      have HX : Hid (takenA T (k + 1) = (takenA T k).setIfInBounds k (.bool (nth T.zs k != -1))) := Lib.hid (takenA_set k16).symm
      have c0 : wr.cell? ⟨w.heap.size + 1, k, none⟩ = some (.bool (tk T k k)) := boolsAt_of (Sr.cells 0 rfl) k k16
      have c1 : wr.frozen? ⟨w.heap.size + 1, k, none⟩ = false := by simp [World.frozen?, Sr.cells 0 rfl]
      have cz : w.heap.size + 1 < wr.heap.size := (Array.getElem?_eq_some_iff.1 (Sr.cells 0 rfl)).1
      have SR := Lib.hid Sr
      clear Sr
      generalize nth T.zs k = x at r0 r1 HX
      go_wp2_with fail
      go_roundw
      case rel =>
        have S1 := SR.out.setBoxAt 0 rfl k (.bool (x != -1)) (setCell_arr (SR.out.cells 0 rfl) k _) (by simp [Far, It.box]) (by omega)
        have S2 := (S1.alloc #[.int .i64 x, .int .i64 (homeT T x)] 64).turn (l' := [It.box (w.heap.size + 1) ((takenA T k).setIfInBounds k (.bool (x != -1))) 89, It.box w.heap.size (Array.replicate 16 (.bool false)) 89]) fun i hi => List.mem_cons_of_mem _ hi
        exact ⟨k + 1, by omega, by go_num, by rw [HX.out]; exact S2⟩
      case measure => simp [intOf]; omega
    · obtain rfl : k = T.zs.length := by omega
      have SR := Lib.hid Sr
      have hb := boolsAt_of (Sr.cells 0 rfl)
      have HF : ∀ i, wr.frozen? ⟨w.heap.size, i, none⟩ = false := fun i => by simp [World.frozen?, Sr.cells 1 rfl]
      have HD : ∀ i, i < 16 → wr.cell? ⟨w.heap.size, i, none⟩ = some (.bool false) := fun i hi => by simp [World.cell?, Sr.cells 1 rfl, hi]
      have HA := Lib.hid (show takenA T T.zs.length = takenA T T.zs.length from rfl)
      have c0 := hb 0 (by omega); have f0 := HF 0; have d0 := HD 0 (by omega)
      have c1 := hb 1 (by omega); have f1 := HF 1; have d1 := HD 1 (by omega)
      have c2 := hb 2 (by omega); have f2 := HF 2; have d2 := HD 2 (by omega)
      have c3 := hb 3 (by omega); have f3 := HF 3; have d3 := HD 3 (by omega)
      have c4 := hb 4 (by omega); have f4 := HF 4; have d4 := HD 4 (by omega)
      have c5 := hb 5 (by omega); have f5 := HF 5; have d5 := HD 5 (by omega)
      have c6 := hb 6 (by omega); have f6 := HF 6; have d6 := HD 6 (by omega)
      have c7 := hb 7 (by omega); have f7 := HF 7; have d7 := HD 7 (by omega)
      have c8 := hb 8 (by omega); have f8 := HF 8; have d8 := HD 8 (by omega)
      have c9 := hb 9 (by omega); have f9 := HF 9; have d9 := HD 9 (by omega)
      have c10 := hb 10 (by omega); have f10 := HF 10; have d10 := HD 10 (by omega)
      have c11 := hb 11 (by omega); have f11 := HF 11; have d11 := HD 11 (by omega)
      have c12 := hb 12 (by omega); have f12 := HF 12; have d12 := HD 12 (by omega)
      have c13 := hb 13 (by omega); have f13 := HF 13; have d13 := HD 13 (by omega)
      have c14 := hb 14 (by omega); have f14 := HF 14; have d14 := HD 14 (by omega)
      have c15 := hb 15 (by omega); have f15 := HF 15; have d15 := HD 15 (by omega)
      clear hb HF HD
      have HW := set16 (Sr.cells 1 rfl) (.bool (tk T T.zs.length 0)) (.bool (tk T T.zs.length 1)) (.bool (tk T T.zs.length 2)) (.bool (tk T T.zs.length 3)) (.bool (tk T T.zs.length 4)) (.bool (tk T T.zs.length 5)) (.bool (tk T T.zs.length 6)) (.bool (tk T T.zs.length 7)) (.bool (tk T T.zs.length 8)) (.bool (tk T T.zs.length 9)) (.bool (tk T T.zs.length 10)) (.bool (tk T T.zs.length 11)) (.bool (tk T T.zs.length 12)) (.bool (tk T T.zs.length 13)) (.bool (tk T T.zs.length 14)) (.bool (tk T T.zs.length 15))
      have HB := Lib.hid (set16_below Sr.old (Nat.le_refl _) (.bool (tk T T.zs.length 0)) (.bool (tk T T.zs.length 1)) (.bool (tk T T.zs.length 2)) (.bool (tk T T.zs.length 3)) (.bool (tk T T.zs.length 4)) (.bool (tk T T.zs.length 5)) (.bool (tk T T.zs.length 6)) (.bool (tk T T.zs.length 7)) (.bool (tk T T.zs.length 8)) (.bool (tk T T.zs.length 9)) (.bool (tk T T.zs.length 10)) (.bool (tk T T.zs.length 11)) (.bool (tk T T.zs.length 12)) (.bool (tk T T.zs.length 13)) (.bool (tk T T.zs.length 14)) (.bool (tk T T.zs.length 15)))
      have q := boolsAt_of (T := T) (k := T.zs.length) HW
      clear HW
      have Q := Lib.hid q
      clear q
      go_wp2_with fail
      have q := Q.out
      have q0 := q 0 (by omega)
      have q1 := q 1 (by omega)
      have q2 := q 2 (by omega)
      have q3 := q 3 (by omega)
      have q4 := q 4 (by omega)
      have q5 := q 5 (by omega)
      have q6 := q 6 (by omega)
      have q7 := q 7 (by omega)
      have q8 := q 8 (by omega)
      have q9 := q 9 (by omega)
      have q10 := q 10 (by omega)
      have q11 := q 11 (by omega)
      have q12 := q 12 (by omega)
      have q13 := q 13 (by omega)
      have q14 := q 14 (by omega)
      have q15 := q 15 (by omega)
      refine bodyPost_ret (v := .agg (takenA T T.zs.length)) (by simp [results, Try.results70, go_sem, q0, q1, q2, q3, q4, q5, q6, q7, q8, q9, q10, q11, q12, q13, q14, q15, takenA]) rfl ⟨rfl, HB.out⟩

end Go.Proofs.Ytpncpeokdcolpaa

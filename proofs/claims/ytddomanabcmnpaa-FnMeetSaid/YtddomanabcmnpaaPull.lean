/-
  Ways around: the program's pull.
-/
import Derived.Test.YtddomanabcmnpaaWayI
namespace Go.Proofs.Ytddomanabcmnpaa
open Go.RowKit

theorem keepPull {w : World} {b : Nat} {v x0 x1 x3 : Value} (h : w.cell? ⟨b, 0, none⟩ = some x0 ∧ w.cell? ⟨b, 1, none⟩ = some x1 ∧ w.cell? ⟨b, 3, none⟩ = some x3) :
    (w.setCell ⟨b, 2, none⟩ v).drew.cell? ⟨b, 0, none⟩ = some x0 ∧ (w.setCell ⟨b, 2, none⟩ v).drew.cell? ⟨b, 1, none⟩ = some x1 ∧ (w.setCell ⟨b, 2, none⟩ v).drew.cell? ⟨b, 3, none⟩ = some x3 := by
  refine ⟨?_, ?_, ?_⟩
  · show (w.setCell ⟨b, 2, none⟩ v).cell? _ = _
    rw [World.cell?_setCell_other _ _ _ _ (by simp)]; exact h.1
  · show (w.setCell ⟨b, 2, none⟩ v).cell? _ = _
    rw [World.cell?_setCell_other _ _ _ _ (by simp)]; exact h.2.1
  · show (w.setCell ⟨b, 2, none⟩ v).cell? _ = _
    rw [World.cell?_setCell_other _ _ _ _ (by simp)]; exact h.2.2

set_option maxRecDepth 100000 in
set_option maxHeartbeats 4000000 in
theorem pull0 (b n s x i : Nat) (w : World) (n1 : 1 ≤ n) (n2 : n ≤ 16) (hs : s ≤ 16) (hx : x ≤ 16) (hi : i ≤ 16) (hb : w.heap[b]? = some (.cells #[.iface 80 (.int .i64 s), .int .i64 n, .int .i64 x, .int .i64 i] 79 (0, 0))) :
    Calls Try.prog 50 #[.pointer (some ⟨b, 0, none⟩)] w fun e w' => e = .returned (.int .i64 x) ∧ ∃ q, w' = ((w.setCell ⟨b, 2, none⟩ (.int .i64 ((x + moreK 0 s i) % n : Nat))).setCell ⟨b, 3, none⟩ (.int .i64 ((i : Int) + 1))).drewN q := by
  obtain ⟨x0, x1, x2, x3, f0, f1, f2, f3, xz⟩ := facts4 hb
  have mN := methodNext0
  have hm := more_le (k := 0) hs hi
  have AL := Lib.hid fun w => next0_any s x i w hs hx hi
  have W1 := Lib.hid (show ((x : Int) + ((moreK 0 s i : Nat) : Int)) % (n : Int) = (((x + moreK 0 s i) % n : Nat) : Int) by rw [Int.natCast_emod, Int.natCast_add])
  have w3 : ((n : Int) == 0) = false := beq_eq_false_iff_ne.2 (by omega)
  have w4 : ¬ n = 0 := by omega
  generalize moreK 0 s i = M at hm AL W1
  clear hb
  go_enter Try.func50, Try.ntmps50
  go_wp2_with fail
  go_region_held3 (fun w' => w'.cell? ⟨b, 0, none⟩ = some (.iface 80 (.int .i64 s)) ∧ w'.cell? ⟨b, 1, none⟩ = some (.int .i64 n) ∧ w'.cell? ⟨b, 3, none⟩ = some (.int .i64 i))
    (first | exact ⟨x0, x1, x3⟩ | exact keepPull ⟨x0, x1, x3⟩)
    (first | (go_at_call 75; refine (AL.out _).mono ?_; rintro e w6 ⟨rfl, rfl⟩))
  go_wp2
  go_ret
  exact ⟨rfl, 1, by rw [W1.out]; rfl⟩

set_option maxRecDepth 100000 in
set_option maxHeartbeats 4000000 in
theorem pull1 (b n s x i : Nat) (w : World) (n1 : 1 ≤ n) (n2 : n ≤ 16) (hs : s ≤ 16) (hx : x ≤ 16) (hi : i ≤ 16) (hb : w.heap[b]? = some (.cells #[.iface 81 (.int .i64 s), .int .i64 n, .int .i64 x, .int .i64 i] 79 (0, 0))) :
    Calls Try.prog 50 #[.pointer (some ⟨b, 0, none⟩)] w fun e w' => e = .returned (.int .i64 x) ∧ ∃ q, w' = ((w.setCell ⟨b, 2, none⟩ (.int .i64 ((x + moreK 1 s i) % n : Nat))).setCell ⟨b, 3, none⟩ (.int .i64 ((i : Int) + 1))).drewN q := by
  obtain ⟨x0, x1, x2, x3, f0, f1, f2, f3, xz⟩ := facts4 hb
  have mN := methodNext1
  have hm := more_le (k := 1) hs hi
  have AL := Lib.hid fun w => next1_any s x i w hs hx hi
  have W1 := Lib.hid (show ((x : Int) + ((moreK 1 s i : Nat) : Int)) % (n : Int) = (((x + moreK 1 s i) % n : Nat) : Int) by rw [Int.natCast_emod, Int.natCast_add])
  have w3 : ((n : Int) == 0) = false := beq_eq_false_iff_ne.2 (by omega)
  have w4 : ¬ n = 0 := by omega
  generalize moreK 1 s i = M at hm AL W1
  clear hb
  go_enter Try.func50, Try.ntmps50
  go_wp2_with fail
  go_region_held3 (fun w' => w'.cell? ⟨b, 0, none⟩ = some (.iface 81 (.int .i64 s)) ∧ w'.cell? ⟨b, 1, none⟩ = some (.int .i64 n) ∧ w'.cell? ⟨b, 3, none⟩ = some (.int .i64 i))
    (first | exact ⟨x0, x1, x3⟩ | exact keepPull ⟨x0, x1, x3⟩)
    (first | (go_at_call 76; refine (AL.out _).mono ?_; rintro e w6 ⟨rfl, rfl⟩))
  go_wp2
  go_ret
  exact ⟨rfl, 1, by rw [W1.out]; rfl⟩

set_option maxRecDepth 100000 in
set_option maxHeartbeats 4000000 in
theorem pull2 (b n s x i : Nat) (w : World) (n1 : 1 ≤ n) (n2 : n ≤ 16) (hs : s ≤ 16) (hx : x ≤ 16) (hi : i ≤ 16) (hb : w.heap[b]? = some (.cells #[.iface 82 (.int .i64 s), .int .i64 n, .int .i64 x, .int .i64 i] 79 (0, 0))) :
    Calls Try.prog 50 #[.pointer (some ⟨b, 0, none⟩)] w fun e w' => e = .returned (.int .i64 x) ∧ ∃ q, w' = ((w.setCell ⟨b, 2, none⟩ (.int .i64 ((x + moreK 2 s i) % n : Nat))).setCell ⟨b, 3, none⟩ (.int .i64 ((i : Int) + 1))).drewN q := by
  obtain ⟨x0, x1, x2, x3, f0, f1, f2, f3, xz⟩ := facts4 hb
  have mN := methodNext2
  have hm := more_le (k := 2) hs hi
  have AL := Lib.hid fun w => next2_any s x i w hs hx hi
  have W1 := Lib.hid (show ((x : Int) + ((moreK 2 s i : Nat) : Int)) % (n : Int) = (((x + moreK 2 s i) % n : Nat) : Int) by rw [Int.natCast_emod, Int.natCast_add])
  have w3 : ((n : Int) == 0) = false := beq_eq_false_iff_ne.2 (by omega)
  have w4 : ¬ n = 0 := by omega
  generalize moreK 2 s i = M at hm AL W1
  clear hb
  go_enter Try.func50, Try.ntmps50
  go_wp2_with fail
  go_region_held3 (fun w' => w'.cell? ⟨b, 0, none⟩ = some (.iface 82 (.int .i64 s)) ∧ w'.cell? ⟨b, 1, none⟩ = some (.int .i64 n) ∧ w'.cell? ⟨b, 3, none⟩ = some (.int .i64 i))
    (first | exact ⟨x0, x1, x3⟩ | exact keepPull ⟨x0, x1, x3⟩)
    (first | (go_at_call 77; refine (AL.out _).mono ?_; rintro e w6 ⟨rfl, rfl⟩))
  go_wp2
  go_ret
  exact ⟨rfl, 1, by rw [W1.out]; rfl⟩

theorem setCell_23 {w : World} {b : Nat} {x0 x1 x2 x3 u v : Value} {t : TypeId} (h : w.heap[b]? = some (.cells #[x0, x1, x2, x3] t (0, 0))) :
    ((w.setCell ⟨b, 2, none⟩ u).setCell ⟨b, 3, none⟩ v).heap[b]? = some (.cells #[x0, x1, u, v] t (0, 0)) := by
  simp [World.setCell, Array.getElem?_modify, h]
theorem grownBy_23 (w : World) (b : Nat) (u v : Value) (q : Nat) : w.grownBy (((w.setCell ⟨b, 2, none⟩ u).setCell ⟨b, 3, none⟩ v).drewN q) (some b) :=
  ⟨rfl, rfl, rfl, by simp [World.setCell], fun k _ hk => by
    have hne : k ≠ b := fun e => hk (by rw [e])
    exact (Below.heap_setCell _ _ _ k hne).trans (Below.heap_setCell _ _ _ k hne)⟩

/-- A walker that has come to the slot behind i steps. -/
def walkC (n k s h i : Nat) : Array Value := #[wayV k s, .int .i64 n, .int .i64 (atW n k s h i : Nat), .int .i64 i]

theorem pull_any (b n k s h i : Nat) (w : World) (n1 : 1 ≤ n) (n2 : n ≤ 16) (hk : k ≤ 2) (hs : s ≤ 16) (hi : i ≤ 16) (hb : w.heap[b]? = some (.cells (walkC n k s h i) 79 (0, 0))) :
    Calls Try.prog 50 #[.pointer (some ⟨b, 0, none⟩)] w fun e w' => e = .returned (.int .i64 (atW n k s h i : Nat)) ∧ w.grownBy w' (some b) ∧ w'.heap[b]? = some (.cells (walkC n k s h (i + 1)) 79 (0, 0)) := by
  have hx : atW n k s h i ≤ 16 := by have := atW_lt n1 k s h i; omega
  have key : ∀ q, w.grownBy (((w.setCell ⟨b, 2, none⟩ (.int .i64 ((atW n k s h i + moreK k s i) % n : Nat))).setCell ⟨b, 3, none⟩ (.int .i64 ((i : Int) + 1))).drewN q) (some b) ∧
      (((w.setCell ⟨b, 2, none⟩ (.int .i64 ((atW n k s h i + moreK k s i) % n : Nat))).setCell ⟨b, 3, none⟩ (.int .i64 ((i : Int) + 1))).drewN q).heap[b]? = some (.cells (walkC n k s h (i + 1)) 79 (0, 0)) := fun q => by
    refine ⟨grownBy_23 _ _ _ _ _, ?_⟩
    have := setCell_23 (u := .int .i64 ((atW n k s h i + moreK k s i) % n : Nat)) (v := .int .i64 ((i : Int) + 1)) hb
    rw [atW_succ] at this ⊢
    exact this
  have hk' : k = 0 ∨ k = 1 ∨ k = 2 := by omega
  rcases hk' with rfl | rfl | rfl
  · refine (pull0 b n s (atW n 0 s h i) i w n1 n2 hs hx hi hb).mono ?_
    rintro e w' ⟨rfl, q, rfl⟩
    exact ⟨rfl, key q⟩
  · refine (pull1 b n s (atW n 1 s h i) i w n1 n2 hs hx hi hb).mono ?_
    rintro e w' ⟨rfl, q, rfl⟩
    exact ⟨rfl, key q⟩
  · refine (pull2 b n s (atW n 2 s h i) i w n1 n2 hs hx hi hb).mono ?_
    rintro e w' ⟨rfl, q, rfl⟩
    exact ⟨rfl, key q⟩

/-- A box that is written by a call. -/
theorem St.boxBy {w0 w w' : World} {l : List It} {b : Nat} {c c' : Array Value} {t : TypeId} (h : St w0 w l) (n : Nat) (hn : l[n]? = some (It.box b c t)) (hg : w.grownBy w' (some b)) (hc : w'.heap[b]? = some (.cells c' t (0, 0)))
    (hf : Far (It.box b c t) (l.eraseIdx n)) (hlo : w0.heap.size ≤ b) : St w0 w' (l.set n (It.box b c' t)) := by
  have h1 : St w0 w (It.box b c t :: l.eraseIdx n) := h.turn fun i hi => by
    rcases List.mem_cons.1 hi with rfl | hi
    · exact List.mem_of_getElem? hn
    · exact List.mem_of_mem_eraseIdx hi
  have hz := (h1.all _ List.mem_cons_self).1
  refine (h1.write (i' := It.box b c' t) hg (fun k e => by cases e; exact ⟨Nat.le_refl _, Nat.lt_succ_self _⟩) hf hlo (Nat.le_trans hz hg.size) hc).turn fun i hi => ?_
  obtain ⟨k, hk⟩ := List.getElem?_of_mem hi
  rw [List.getElem?_set] at hk
  split at hk
  · split at hk
    · cases hk; exact List.mem_cons_self ..
    · cases hk
  · rename_i hne
    refine List.mem_cons_of_mem _ ?_
    rw [List.mem_eraseIdx_iff_getElem?]
    exact ⟨k, Ne.symm hne, hk⟩

end Go.Proofs.Ytddomanabcmnpaa

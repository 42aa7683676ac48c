/-
  Ways around: the program's reachOfAll, reachBy.
-/
import Derived.Test.YtddomanabcmnpaaWayO
import Derived.Test.YtddomanabcmnpaaWide
namespace Go.Proofs.Ytddomanabcmnpaa
open Go.RowKit

/-- A reach: a bit for each slot. -/
def hitK (p : Nat → Bool) : Array Value := ((List.range 16).map fun j => Value.bool (p j)).toArray
def hit0 : Array Value := Array.replicate 16 (.bool false)
theorem hit0_size : hit0.size = 16 := by simp [hit0]
theorem hitK_size (p : Nat → Bool) : (hitK p).size = 16 := by simp [hitK]
theorem hitK_one (p : Nat → Bool) : (hitK p).all (·.oneCell') = true := by
  rw [Array.all_eq_true_iff_forall_mem]
  intro x hx
  simp only [hitK, List.mem_toArray, List.mem_map] at hx
  obtain ⟨j, _, rfl⟩ := hx
  rfl
theorem hitK_at (p : Nat → Bool) {j : Nat} (hj : j < 16) : (hitK p)[j]? = some (.bool (p j)) := by
  unfold hitK
  simp [hj]
theorem hitK_eq {p q : Nat → Bool} (h : ∀ j, j < 16 → p j = q j) : hitK p = hitK q := by
  unfold hitK
  congr 1
  refine List.map_congr_left fun j hj => ?_
  rw [h j (List.mem_range.1 hj)]
theorem hitK_zero : hitK (fun _ => false) = hit0 := by
  apply Array.ext_getElem?
  intro i
  by_cases hi : i < 16
  · rw [hitK_at _ hi]
    simp [hit0, hi]
  · rw [Array.getElem?_eq_none (by rw [hitK_size]; omega), Array.getElem?_eq_none (by rw [hit0_size]; omega)]
theorem hitK_set (p : Nat → Bool) {k : Nat} (hk : k < 16) : (hitK p).setIfInBounds k (.bool true) = hitK fun j => p j || k == j := by
  apply Array.ext_getElem?
  intro i
  rw [Array.getElem?_setIfInBounds]
  by_cases hi : i < 16
  · rw [hitK_at p hi, hitK_at (fun j => p j || k == j) hi]
    by_cases e : k = i
    · subst e
      rw [if_pos rfl, if_pos (by rw [hitK_size]; exact hk)]
      simp
    · rw [if_neg e]
      simp [e]
  · rw [if_neg (by omega), Array.getElem?_eq_none (by rw [hitK_size]; omega), Array.getElem?_eq_none (by rw [hitK_size]; omega)]

theorem infoR : (Try.prog.info? 55).map (fun i => (i.zero, i.size)) = some (some (.agg hit0), 16) := by kernel_rfl
theorem sizeR : (Try.prog.info? 55).map (·.size) = some 16 := by kernel_rfl
theorem zeroR : ∀ w, (zeroValue 55).run Try.prog w = .ok (.agg hit0) w := by
  intro w
  have h := infoR
  cases hi : Try.prog.info? 55 with
  | none => rw [hi] at h; cases h
  | some i =>
    rw [hi] at h
    simp only [Option.map_some, Option.some.injEq, Prod.mk.injEq] at h
    simp [zeroValue, typeInfo, hi, h.1]

theorem setCell_row {w : World} {b : Nat} {c : Array Value} {t : TypeId} (h : w.heap[b]? = some (.cells c t (0, 0))) (k : Nat) (v : Value) : (w.setCell ⟨b, k, none⟩ v).heap[b]? = some (.cells (c.setIfInBounds k v) t (0, 0)) := by
  simp [World.setCell, Array.getElem?_modify, h]
theorem grownBy_cell (w : World) (b k : Nat) (v : Value) : w.grownBy (w.setCell ⟨b, k, none⟩ v) (some b) :=
  ⟨rfl, rfl, rfl, by simp [World.setCell], fun j _ hj => Below.heap_setCell _ _ _ j (fun e => hj (by rw [e]))⟩
theorem St.cellAt {w0 w : World} {l : List It} {b : Nat} {c : Array Value} {t : TypeId} (h : St w0 w l) (n : Nat) (hn : l[n]? = some (It.box b c t)) (k : Nat) (v : Value)
    (hf : Far (It.box b c t) (l.eraseIdx n)) (hlo : w0.heap.size ≤ b) : St w0 (w.setCell ⟨b, k, none⟩ v) (l.set n (It.box b (c.setIfInBounds k v) t)) :=
  h.boxBy n hn (grownBy_cell w b k v) (setCell_row (h.cells n hn) k v) hf hlo

set_option maxRecDepth 100000 in
set_option maxHeartbeats 1000000 in
theorem reachOfAll_any (n : Nat) (w : World) (hn : n ≤ 16) :
    Calls Try.prog 46 #[.int .i64 n] w fun e w' => e = .returned (.agg (hitK fun j => decide (j < n))) ∧ Below w.heap.size w w' := by
  have S0 := ((St.start w).alloc hit0 55).alloc hit0 55
  simp only [World.size_alloc] at S0
  go_enter Try.func46, Try.ntmps46
  go_wp2_with (refine wide_alloc rfl 55 rfl hit0 zeroR ?_)
  go_loopw [4, 6] (fun _ i wr => ∃ k : Nat, k ≤ n ∧ i = .int .i64 k ∧ St w wr [It.box (w.heap.size + 1) (hitK fun j => decide (j < k)) 55, It.box w.heap.size hit0 55]) (fun _ i _ => n - (intOf i).toNat)
  case atStart => exact ⟨0, Nat.zero_le _, rfl, by rw [show (fun j : Nat => decide (j < 0)) = (fun _ => false) by funext j; simp, hitK_zero]; exact S0⟩
  case round =>
    obtain ⟨k, hk, rfl, Sr⟩ := hrel
    clear S0
    by_cases hlt : k < n
    · have k16 : k < 16 := by omega
      have j0 : (0 : Int) ≤ (k : Int) := by omega
      have j1 : (k : Int) < 16 := by omega
      have HX : Hid ((hitK fun j => decide (j < k)).setIfInBounds k (.bool true) = hitK fun j => decide (j < k + 1)) := Lib.hid (by
        rw [hitK_set _ k16]
        refine hitK_eq fun j _ => ?_
        rw [Bool.eq_iff_iff]
        simp
        omega)
      have c0 : wr.cell? ⟨w.heap.size + 1, k, none⟩ = some (.bool (decide (k < k))) := by unfold World.cell?; simp only [Sr.cells 0 rfl]; exact hitK_at _ k16
      have f0 : wr.frozen? ⟨w.heap.size + 1, k, none⟩ = false := by unfold World.frozen?; simp [Sr.cells 0 rfl]
      have S7 := Sr.cellAt 0 rfl k (.bool true) (by simp [Far, It.box]) (by omega)
      rw [HX.out] at S7
      go_wp2
      go_roundw
      case rel => exact ⟨k + 1, by omega, by go_num, S7⟩
      case measure => simp [intOf]; omega
    · obtain rfl : k = n := by omega
      have SP := (Sr.turn (l' := [It.box w.heap.size hit0 55]) fun i hi => by
        obtain rfl := List.mem_singleton.1 hi
        simp).setRowAt (c' := hitK fun j => decide (j < k)) trivial (by omega)
      have hL := Sr.cells 0 rfl
      have hS := Sr.cells 1 rfl
      have h1 := hitK_one fun j => decide (j < k)
      have h2 := hitK_size fun j => decide (j < k)
      obtain ⟨C, hC⟩ : ∃ C, C = hitK fun j => decide (j < k) := ⟨_, rfl⟩
      rw [← hC] at SP hL h1 h2
      have HC := Lib.hid hC
      clear hC
      go_wp2_with (first
        | refine wide_load rfl (.tmp 3) 55 rfl (w.heap.size + 1) 55 C (0, 0) _ rfl hL Try.underlying55 rfl (by rw [sizeR, h2]) ?_
        | refine wide_store rfl (.tmp 2) (.tmp 12) 55 rfl w.heap.size 55 hit0 C rfl rfl hS (by rw [sizeR, h2]) (by rw [hit0_size, h2]) h1 ?_)
      refine bodyPost_ret (v := .agg C) ?_ rfl ⟨by rw [HC.out], SP.old⟩
      have hrow := run_loadVar_row (P := Try.prog) (wr.setRow w.heap.size C) w.heap.size 55 55 C (0, 0) _ (SP.cells 0 rfl) Try.underlying55 rfl (by rw [sizeR, h2])
      simp [results, Try.results46, asAddr, Act.put, Result.andThen, hrow]

/-- Slot y is among the first j of a list. -/
def hitL (xs : List Int) (j y : Nat) : Bool := (xs.take j).any fun x => x == (y : Int)
theorem hitL_zero (xs : List Int) : hitL xs 0 = fun _ => false := rfl
theorem hitL_succ {xs : List Int} {j : Nat} {x : Nat} (hj : j < xs.length) (hx : nth xs j = (x : Int)) (y : Nat) : hitL xs (j + 1) y = (hitL xs j y || x == y) := by
  have h : xs[j] = (x : Int) := by simpa [nth, List.getElem?_eq_getElem hj] using hx
  unfold hitL
  rw [List.take_succ_eq_append_getElem hj, List.any_append, h]
  simp only [List.any_cons, List.any_nil, Bool.or_false]
  congr 1
  rw [Bool.eq_iff_iff]
  simp only [beq_iff_eq]
  omega
theorem hitL_way (n k s y : Nat) : hitL (wayL n k s 0) n y = hitW n k s y := by
  unfold hitL hitW
  rw [List.take_of_length_le (by rw [wayL_len]; omega)]
  unfold wayL
  rw [List.any_map]
  congr 1
  funext i
  rw [Bool.eq_iff_iff]
  simp
  omega
theorem asks_zero (n k s : Int) : asksW n k s 0 = askW n k s := by
  unfold asksW
  cases h : askW n k s
  · rfl
  · have := (askW_iff.1 h).1
    rw [inB_true (n := 0) (by omega)]; rfl
/-- What one has reached. -/
def reachP (n k s : Int) (y : Nat) : Bool := askW n k s && hitW n.toNat k.toNat s.toNat y
theorem hitL_wayI (n k s : Int) : hitL (wayI n k s 0) (wayI n k s 0).length = reachP n k s := by
  funext y
  unfold reachP
  cases h : askW n k s
  · rw [wayI_no (by rw [asks_zero, h])]; rfl
  · obtain ⟨N, K, S, rfl, rfl, rfl, h1, h2, h3, h4⟩ := askW_nat h
    have e := wayI_yes (n := N) (k := K) (s := S) (h := 0) (by rw [Int.natCast_zero, asks_zero, h])
    rw [Int.natCast_zero] at e
    rw [e, wayL_len, hitL_way]
    simp
theorem wayI_slot {n k s h : Int} {i : Nat} (hi : i < (wayI n k s h).length) : ∃ x : Nat, x < 16 ∧ nth (wayI n k s h) i = (x : Int) := by
  cases ha : asksW n k s h
  · rw [wayI_no ha] at hi; simp at hi
  · obtain ⟨N, K, S, H, rfl, rfl, rfl, rfl, h1, h2, h3, h4, h5⟩ := asksW_nat ha
    rw [wayI_yes ha] at hi ⊢
    rw [wayL_len] at hi
    have := atW_lt h1 K S H i
    exact ⟨_, by omega, nth_wayL hi⟩

set_option maxRecDepth 100000 in
set_option maxHeartbeats 2000000 in
theorem reachBy_any (n k s : Int) (w : World) :
    Calls Try.prog 42 #[.int .i64 n, .int .i64 k, .int .i64 s] w fun e w' => e = .returned (.tuple #[.agg (hitK (reachP n k s)), .bool (askW n k s)]) ∧ Below w.heap.size w w' := by
  have HE := Lib.hid (hitL_wayI n k s)
  have HA := Lib.hid (asks_zero n k s)
  have HS := Lib.hid fun (i : Nat) (hi : i < (wayI n k s 0).length) => wayI_slot hi
  have hl := wayI_len n k s 0
  have AW := Lib.hid fun w => WayOf_any n k s 0 w
  generalize wayI n k s 0 = xs at HE HS hl AW
  have S0 := ((St.start w).alloc hit0 55).alloc hit0 55
  simp only [World.size_alloc] at S0
  go_enter Try.func42, Try.ntmps42
  go_wp2_with (refine wide_alloc rfl 55 rfl hit0 zeroR ?_)
  refine (AW.out _).mono ?_
  rw [HA.out]
  rintro e w1 ⟨a1, c1, rfl, ho, hb⟩
  have S1 := (S0.below hb).own ho
  clear S0 ho hb
  go_wp2
  go_loopw [12, 22] (fun _ i wr => ∃ j : Nat, j ≤ xs.length ∧ i = .int .i64 j ∧ St w wr [It.own ((w.alloc (.cells hit0 55)).alloc (.cells hit0 55)).heap.size w1.heap.size a1 xs, It.box (w.heap.size + 1) (hitK (hitL xs j)) 55, It.box w.heap.size hit0 55]) (fun _ i _ => xs.length - (intOf i).toNat)
  case atStart => exact ⟨0, Nat.zero_le _, rfl, by rw [hitL_zero, hitK_zero]; exact S1⟩
  case round =>
    obtain ⟨j, hj, rfl, Sr⟩ := hrel
    clear S1
    by_cases hlt : j < xs.length
    · obtain ⟨x, hx16, hxx⟩ := HS.out j hlt
      obtain ⟨b1, o1, y, rfl, q1, Y⟩ := (Sr.ints 0 rfl).at hlt
      obtain rfl : (x : Int) = y := by rw [← hxx, Y.out]
      have j0 : (0 : Int) ≤ (x : Int) := by omega
      have j1 : (x : Int) < 16 := by omega
      have HX : Hid ((hitK (hitL xs j)).setIfInBounds x (.bool true) = hitK (hitL xs (j + 1))) := Lib.hid (by
        rw [hitK_set _ hx16]
        exact hitK_eq fun y _ => (hitL_succ hlt hxx y).symm)
      have c0 : wr.cell? ⟨w.heap.size + 1, x, none⟩ = some (.bool (hitL xs j x)) := by unfold World.cell?; simp only [Sr.cells 1 rfl]; exact hitK_at _ hx16
      have f0 : wr.frozen? ⟨w.heap.size + 1, x, none⟩ = false := by unfold World.frozen?; simp [Sr.cells 1 rfl]
      have S7 := Sr.cellAt 1 rfl x (.bool true) (by simp [Far, It.box, It.own]) (by omega)
      rw [HX.out] at S7
      clear hxx
      go_wp2
      go_roundw
      case rel => exact ⟨j + 1, by omega, by go_num, S7⟩
      case measure => simp [intOf]; omega
    · obtain rfl : j = xs.length := by omega
      rw [HE.out] at Sr
      have SP := (Sr.turn (l' := [It.box w.heap.size hit0 55]) fun i hi => by
        obtain rfl := List.mem_singleton.1 hi
        simp).setRowAt (c' := hitK (reachP n k s)) trivial (by omega)
      have hL := Sr.cells 1 rfl
      have hS := Sr.cells 2 rfl
      have h1 := hitK_one (reachP n k s)
      have h2 := hitK_size (reachP n k s)
      obtain ⟨C, hC⟩ : ∃ C, C = hitK (reachP n k s) := ⟨_, rfl⟩
      rw [← hC] at SP hL h1 h2
      have HC := Lib.hid hC
      clear hC
      clear Sr
      go_wp2_with (first
        | refine wide_load rfl (.tmp 8) 55 rfl (w.heap.size + 1) 55 C (0, 0) _ rfl hL Try.underlying55 rfl (by rw [sizeR, h2]) ?_
        | refine wide_store rfl (.tmp 6) (.tmp 29) 55 rfl w.heap.size 55 hit0 C rfl rfl hS (by rw [sizeR, h2]) (by rw [hit0_size, h2]) h1 ?_)
      refine bodyPost_ret (v := .tuple #[.agg C, .bool (askW n k s)]) ?_ rfl ⟨by rw [HC.out], SP.old⟩
      have hrow := run_loadVar_row (P := Try.prog) (wr.setRow w.heap.size C) w.heap.size 55 55 C (0, 0) _ (SP.cells 0 rfl) Try.underlying55 rfl (by rw [sizeR, h2])
      simp [results, Try.results42, asAddr, Act.put, Result.andThen, hrow]

end Go.Proofs.Ytddomanabcmnpaa

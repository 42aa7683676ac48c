/-
  slices.Repeat at one integer, up to 16 times: a new row of so many.
-/
import Derived.Test.YtlhbddjaioodkaaMarks
import Derived.Test.YtlhbddjaioodkaaShelf
import Derived.Laws.CopyOwn
import Derived.Deep.RegionLaw
import Derived.IntWalk
namespace Go.Proofs.Ytlhbddjaioodkaa
open Go.RowKit

theorem mul_one (n : Nat) (hn : n ≤ 16) (w : World) : Calls Try.prog 83 #[.int .u64 1, .int .u64 n] w fun e w' => e = .returned (.tuple #[.int .u64 0, .int .u64 n]) ∧ w = w' := by
  refine (Try.bits_Mul 1 n (by omega) (by omega) w).mono ?_
  rintro e w' ⟨rfl, rfl⟩
  refine ⟨?_, rfl⟩
  rw [show 1 * n / 18446744073709551616 = 0 by omega, show 1 * n % 18446744073709551616 = n by omega]
  rfl

theorem Try.info3 : (Try.prog.info? 3).map (fun i => (i.zero, i.size, i.bytes)) = some (some (.int .i64 0), 1, 8) := by kernel_rfl

theorem infosz : (Try.prog.info? 3).map (·.size) = some 1 := by kernel_rfl

/-- n cells of 0 -/
def zeros (n : Nat) : List Value := List.replicate n (.int .i64 0)

theorem mk_row (n : Nat) (hn : n ≤ 1048576) (w : World) : (Instr.makeSlice 23 (.int .i64 n) (.int .i64 n)).run Try.prog w = .ok (.slice (some ⟨w.heap.size, 0, none⟩) n n) (w.alloc (.cells (zeros n).toArray 3)) := by
  obtain ⟨i0, hi, hz0, hz1, hz2⟩ := info_parts Try.info3
  have h := run_make (P := Try.prog) w 23 3 i0 (.int .i64 0) Try.underlying23 hi hz0 .i64 .i64 n n (by omega) (by omega) (by rw [hz2]; omega) (by omega)
  simp only [Int.toNat_natCast] at h
  rw [h, hz1, Nat.mul_one]
  have e : madeCells (Value.int IntKind.i64 0).cells n = (zeros n).toArray := by
    rw [show (Value.int IntKind.i64 0).cells = #[.int .i64 0] from rfl, zeros, ← toList_madeCells_one (.int .i64 0) n]
  rw [e]

theorem src_of {wr : World} {g k n : Nat} {t : TypeId} {cur cs : List Value} {x : Value} (hg : wr.heap[g]? = some (.cells cur.toArray t (0, 0))) (ht : cur.take k = List.replicate k x) (hcs : cs = List.replicate (Nat.min k (n - k)) x) :
    ∀ (j : Nat) (v : Value), cs[j]? = some v → wr.cell? ((⟨g, 0, none⟩ : Addr).add j) = some v := by
  intro j v hj
  have hmin : Nat.min k (n - k) ≤ k := Nat.min_le_left _ _
  rw [hcs, List.getElem?_replicate] at hj
  split at hj
  · rename_i hlt
    cases hj
    have h1 : (cur.take k)[j]? = some x := by rw [ht, List.getElem?_replicate, if_pos (by omega)]
    rw [List.getElem?_take, if_pos (by omega)] at h1
    by_cases h0 : j = 0
    · subst h0; simp [Addr.add, World.cell?, hg, h1]
    · simp [Addr.add, World.cell?, hg, h1, h0]
  · cases hj

theorem take_splice {k n : Nat} {cur cs : List Value} {x : Value} (ht : cur.take k = List.replicate k x) (hcs : cs = List.replicate (Nat.min k (n - k)) x) (hf : k + cs.length ≤ cur.length) :
    (splice cur k cs).take (k + cs.length) = List.replicate (k + cs.length) x := by
  have hl : (cur.take k).length = k := by simp; omega
  rw [splice, ← List.append_assoc, List.take_append_of_le_length (by simp; omega), List.take_of_length_le (by simp; omega), ht]
  have : cs = List.replicate cs.length x := by rw [hcs, List.length_replicate]
  rw [this, List.length_replicate, List.replicate_append_replicate]

theorem cells_rep {w : World} {g n : Nat} {t : TypeId} {v : Int} (hg : w.heap[g]? = some (.cells (List.replicate n (Value.int .i64 v)).toArray t (0, 0))) :
    (∀ j, j < (List.replicate n v).length → w.cell? ⟨g, 0 + j, none⟩ = some (.int .i64 ((List.replicate n v)[j]?.getD 0))) ∧ (∀ j, j < (List.replicate n v).length → w.frozen? ⟨g, 0 + j, none⟩ = false) := by
  refine ⟨fun j hj => ?_, fun j hj => ?_⟩
  · simp only [List.length_replicate] at hj
    simp [World.cell?, hg, hj]
  · simp [World.frozen?, hg]

theorem one_src {w : World} {b : Nat} {v : Value} {o : Obj} (hc : w.cell? ⟨b, 0, none⟩ = some v) : ∀ (j : Nat) (x : Value), [v][j]? = some x → (w.alloc o).cell? ⟨b, j, none⟩ = some x := by
  intro j x hj
  cases j with
  | zero =>
    simp at hj; subst hj
    rw [World.cell?_alloc_past _ _ _ (World.block_lt_of_cell? w _ hc)]; exact hc
  | succ j => simp at hj

set_option maxHeartbeats 400000 in
set_option maxRecDepth 100000 in
theorem Repeat_any (b : Nat) (v : Int) (n : Nat) (w : World) (h1 : 1 ≤ n) (h16 : n ≤ 16) (hc : w.cell? ⟨b, 0, none⟩ = some (.int .i64 v)) :
    Calls Try.prog 54 #[.slice (some ⟨b, 0, none⟩) 1 1, .int .i64 n] w fun e w' => ∃ g, e = .returned (.slice (some ⟨g, 0, none⟩) n n) ∧
      OwnInts w' w.heap.size (some ⟨g, 0, none⟩) (List.replicate n v) ∧ Below w.heap.size w w' := by
  have hmk := mk_row n (by omega)
  have HM := Lib.hid hmk
  go_enter Try.func54, Try.ntmps54
  go_wp2_with (first | (go_at_call 83; refine (mul_one n h16 _).mono ?_; rintro e w' ⟨rfl, rfl⟩) | (with_reducible refine wpList_copy_splice rfl (.tmp 31) (.tmp 32) 23 23 rfl 3 Try.underlying23 infosz _ _ _ _ _ _ rfl rfl w.heap.size 0 (zeros n) 3 ?hg [.int .i64 v] ?hn ?hpos ?hfit ?h1 w.heap.size w ?hb ?hBg ?_))
  case hg => exact heap_alloc_new w _
  case hn => show 1 = min 1 n; omega
  case hpos => exact one_src hc
  case hfit => simp [zeros]; omega
  case h1 => simp [Value.oneCell']
  case hb => exact (Below.refl _ _).alloc (Nat.le_refl _) _
  case hBg => exact Nat.le_refl _
  intro w2 HG hb2
  have hc' := Lib.hid hc
  have HM2 := HM.out
  clear hc hmk
  go_wp2
  go_loopw [8] (fun x wr => ∃ (k : Nat) (cur : List Value), 1 ≤ k ∧ k ≤ n ∧ x = .int .i64 k ∧ cur.length = n ∧ cur.take k = List.replicate k (.int .i64 v) ∧ wr.heap[w.heap.size]? = some (.cells cur.toArray 3 (0, 0)) ∧ Below w.heap.size w wr) (fun x _ => n - (intOf x).toNat)
  case atStart => exact ⟨1, splice (zeros n) 0 [.int .i64 v], Nat.le_refl _, h1, rfl, by rw [length_splice _ _ _ (by simp [zeros]; omega)]; simp [zeros], by simp [splice], HG.out, hb2⟩
  case round =>
    obtain ⟨k, cur, hk1, hkn, rfl, hl, ht, hg, hb⟩ := hrel
    have HL := Lib.hid hl
    have HT := Lib.hid ht
    have HGr := Lib.hid hg
    clear hl ht hg hb2 HG HM HM2
    by_cases hlt : k < n
    · obtain ⟨cs, hcs⟩ : ∃ cs : List Value, cs = List.replicate (Nat.min k (n - k)) (.int .i64 v) := ⟨_, rfl⟩
      have HC := Lib.hid hcs
      clear hcs
      have e1 : cs.length = Nat.min k (n - k) := by rw [HC.out]; simp
      have E1 := Lib.hid e1
      have E2 : Hid (∀ j v, cs[j]? = some v → wr.cell? ((⟨w.heap.size, 0, none⟩ : Addr).add j) = some v) := Lib.hid (src_of HGr.out HT.out HC.out)
      have E3 : Hid (k + cs.length ≤ cur.length) := Lib.hid (by rw [HL.out, e1]; have : Nat.min k (n - k) ≤ n - k := Nat.min_le_right _ _; omega)
      have E4 : Hid (∀ v ∈ cs, v.oneCell' = true) := Lib.hid (by rw [HC.out]; intro x hx; rw [List.eq_of_mem_replicate hx]; rfl)
      have hnk : ¬ n = k := by omega
      clear e1
      go_wp2
      go_region_law (refine step_copy_splice rfl (.tmp 41) (.tmp 44) 23 23 rfl 3 Try.underlying23 infosz (some ⟨w.heap.size, k, none⟩) (some ⟨w.heap.size, 0, none⟩) (n - k) (n - k) k n (by go_simp) (by go_simp) w.heap.size k cur 3 HGr.out cs E1.out (fun _ => ⟨rfl, ⟨w.heap.size, 0, none⟩, rfl, E2.out⟩) E3.out E4.out w.heap.size w hb.drew (Nat.le_refl _) ?_; intro w4 hg4 hb4)
      have hle : k + cs.length ≤ n := by have := E3.out; rw [HL.out] at this; exact this
      have hw : IntKind.i64.wrap ((k : Int) + (cs.length : Int)) = (((k + cs.length : Nat) : Nat) : Int) := by rw [IntWalk.i64_in _ (by omega)]; omega
      rw [hw]
      refine ⟨⟨_, _, _, _, _, _, _, _, _, _, _, _, _, _, ⟨k + cs.length, splice cur k cs, by omega, hle, rfl, ?_, ?_, hg4.out, hb4⟩, rfl⟩, ?_⟩
      · rw [length_splice _ _ _ E3.out, HL.out]
      · exact take_splice HT.out HC.out E3.out
      · have e1 := E1.out
        have : 0 < Nat.min k (n - k) := by show 0 < min k (n - k); omega
        go_simp
        simp [intOf]
        omega
    · go_wp2
      go_ret
      have e : k = n := by omega
      subst e
      have hcur : cur = List.replicate k (.int .i64 v) := by rw [← HT.out, List.take_of_length_le (by rw [HL.out]; omega)]
      have hg := HGr.out
      rw [hcur] at hg
      exact ⟨w.heap.size, rfl, ⟨fun p hp => by cases hp; exact ⟨Nat.le_refl _, (Array.getElem?_eq_some_iff.1 hg).1⟩, fun _ => ⟨w.heap.size, 0, rfl, cells_rep hg⟩⟩, hb⟩

end Go.Proofs.Ytlhbddjaioodkaa

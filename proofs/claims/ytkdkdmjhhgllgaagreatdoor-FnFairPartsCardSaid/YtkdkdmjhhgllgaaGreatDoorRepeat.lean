/-
  slices.Repeat at one integer, up to 16 times: a new row of so many.
-/
import Derived.Test.YtkdkdmjhhgllgaaGreatDoorBase
import Derived.Test.YtkdkdmjhhgllgaaGreatDoorShelf
namespace Go.Proofs.YtkdkdmjhhgllgaaGreatDoor
open Go.RowKit

theorem mul_one (n : Nat) (hn : n ≤ 16) (w : World) : Calls Tryz.prog 92 #[.int .u64 1, .int .u64 n] w fun e w' => e = .returned (.tuple #[.int .u64 0, .int .u64 n]) ∧ w = w' := by
  refine (Tryz.bits_Mul 1 n (by omega) (by omega) w).mono ?_
  rintro e w' ⟨rfl, rfl⟩
  refine ⟨?_, rfl⟩
  rw [show 1 * n / 18446744073709551616 = 0 by omega, show 1 * n % 18446744073709551616 = n by omega]
  rfl

set_option maxHeartbeats 400000 in
set_option maxRecDepth 100000 in
theorem Repeat_any (b : Nat) (v : Int) (n : Nat) (w : World) (h1 : 1 ≤ n) (h16 : n ≤ 16) (hc : w.cell? ⟨b, 0, none⟩ = some (.int .i64 v)) :
    Calls Tryz.prog 63 #[.slice (some ⟨b, 0, none⟩) 1 1, .int .i64 n] w fun e w' => ∃ g, e = .returned (.slice (some ⟨g, 0, none⟩) n n) ∧
      OwnInts w' w.heap.size (some ⟨g, 0, none⟩) (List.replicate n v) ∧ Below w.heap.size w w' := by
  have hmk := mk_row n (by omega)
  have HM := Lib.hid hmk
  go_enter Tryz.func63, Tryz.ntmps63
  go_wp2_with (first | (go_at_call 92; refine (mul_one n h16 _).mono ?_; rintro e w' ⟨rfl, rfl⟩) | (with_reducible refine wpList_copy_splice rfl (.tmp 31) (.tmp 32) 23 23 rfl 3 Tryz.underlying23 infosz _ _ _ _ _ _ rfl rfl w.heap.size 0 (zeros n) 3 ?hg [.int .i64 v] ?hn ?hpos ?hfit ?h1 w.heap.size w ?hb ?hBg ?_))
  case hg => exact heap_alloc_new w _
  case hn => show 1 = min 1 n; omega
  case hpos => exact one_src hc
  case hfit => simp [zeros]; omega
  case h1 => simp [Value.oneCell']
  case hb => exact (Below.refl _ _).alloc (Nat.le_refl _) _
  case hBg => exact Nat.le_refl _
  intro w2 HG hb2
  have hc' := Lib.hid hc
  have HM2 := HM.out
  clear hc hmk
  go_wp2
  go_loopw [8] (fun x wr => ∃ (k : Nat) (cur : List Value), 1 ≤ k ∧ k ≤ n ∧ x = .int .i64 k ∧ cur.length = n ∧ cur.take k = List.replicate k (.int .i64 v) ∧ wr.heap[w.heap.size]? = some (.cells cur.toArray 3 (0, 0)) ∧ Below w.heap.size w wr) (fun x _ => n - (intOf x).toNat)
  case atStart => exact ⟨1, splice (zeros n) 0 [.int .i64 v], Nat.le_refl _, h1, rfl, by rw [length_splice _ _ _ (by simp [zeros]; omega)]; simp [zeros], by simp [splice], HG.out, hb2⟩
  case round =>
    obtain ⟨k, cur, hk1, hkn, rfl, hl, ht, hg, hb⟩ := hrel
    have HL := Lib.hid hl
    have HT := Lib.hid ht
    have HGr := Lib.hid hg
    clear hl ht hg hb2 HG HM HM2
    by_cases hlt : k < n
    · obtain ⟨cs, hcs⟩ : ∃ cs : List Value, cs = List.replicate (Nat.min k (n - k)) (.int .i64 v) := ⟨_, rfl⟩
      have HC := Lib.hid hcs
      clear hcs
      have e1 : cs.length = Nat.min k (n - k) := by rw [HC.out]; simp
      have E1 := Lib.hid e1
      have E2 : Hid (∀ j v, cs[j]? = some v → wr.cell? ((⟨w.heap.size, 0, none⟩ : Addr).add j) = some v) := Lib.hid (src_of HGr.out HT.out HC.out)
      have E3 : Hid (k + cs.length ≤ cur.length) := Lib.hid (by rw [HL.out, e1]; have : Nat.min k (n - k) ≤ n - k := Nat.min_le_right _ _; omega)
      have E4 : Hid (∀ v ∈ cs, v.oneCell' = true) := Lib.hid (by rw [HC.out]; intro x hx; rw [List.eq_of_mem_replicate hx]; rfl)
      have hnk : ¬ n = k := by omega
      clear e1
      go_wp2
      go_region_law (refine step_copy_splice rfl (.tmp 41) (.tmp 44) 23 23 rfl 3 Tryz.underlying23 infosz (some ⟨w.heap.size, k, none⟩) (some ⟨w.heap.size, 0, none⟩) (n - k) (n - k) k n (by go_simp) (by go_simp) w.heap.size k cur 3 HGr.out cs E1.out (fun _ => ⟨rfl, ⟨w.heap.size, 0, none⟩, rfl, E2.out⟩) E3.out E4.out w.heap.size w hb.drew (Nat.le_refl _) ?_; intro w4 hg4 hb4)
      have hle : k + cs.length ≤ n := by have := E3.out; rw [HL.out] at this; exact this
      have hw : IntKind.i64.wrap ((k : Int) + (cs.length : Int)) = (((k + cs.length : Nat) : Nat) : Int) := by rw [IntWalk.i64_in _ (by omega)]; omega
      rw [hw]
      refine ⟨⟨_, _, _, _, _, _, _, _, _, _, _, _, _, _, ⟨k + cs.length, splice cur k cs, by omega, hle, rfl, ?_, ?_, hg4.out, hb4⟩, rfl⟩, ?_⟩
      · rw [length_splice _ _ _ E3.out, HL.out]
      · exact take_splice HT.out HC.out E3.out
      · have e1 := E1.out
        have : 0 < Nat.min k (n - k) := by show 0 < min k (n - k); omega
        go_simp
        simp [intOf]
        omega
    · go_wp2
      go_ret
      have e : k = n := by omega
      subst e
      have hcur : cur = List.replicate k (.int .i64 v) := by rw [← HT.out, List.take_of_length_le (by rw [HL.out]; omega)]
      have hg := HGr.out
      rw [hcur] at hg
      exact ⟨w.heap.size, rfl, ⟨fun p hp => by cases hp; exact ⟨Nat.le_refl _, (Array.getElem?_eq_some_iff.1 hg).1⟩, fun _ => ⟨w.heap.size, 0, rfl, cells_rep hg⟩⟩, hb⟩

end Go.Proofs.YtkdkdmjhhgllgaaGreatDoor

/-
  The laws' own helpers: otSame, otHas.
-/
import Derived.Shelf.Small.Wraps
import Derived.Test.YtblkafmamnimjaaGreatDoorSame
import Derived.Test.YtblkafmamnimjaaGreatDoorMath
namespace Go.Proofs.YtblkafmamnimjaaGreatDoor
open Go.RowKit

set_option maxHeartbeats 400000 in
theorem otSame_any (a1 a2 : Option Addr) (c1 c2 : Nat) (xs ys : List Int) (w : World) (hx : xs.length ≤ 9223372036854775807) (hy : ys.length ≤ 9223372036854775807) (h1 : IntsAt w a1 xs) (h2 : IntsAt w a2 ys) :
    Calls Tryz.prog 22 #[.slice a1 xs.length c1, .slice a2 ys.length c2] w fun e w' => e = .returned (.bool (decide (xs = ys))) ∧ ∃ n, w' = w.drewN n := by
  go_enter Tryz.func22, Tryz.ntmps22
  go_wp2
  go_loopw [5, 11] (fun _ i wr => ∃ k n : Nat, k ≤ xs.length ∧ k ≤ ys.length ∧ i = .int .i64 k ∧ xs.take k = ys.take k ∧ wr = w.drewN n) (fun _ i _ => xs.length - (intOf i).toNat)
  case atStart => exact ⟨0, 0, Nat.zero_le _, Nat.zero_le _, rfl, rfl, rfl⟩
  case round =>
    obtain ⟨k, n, hk, hk2, rfl, ht, rfl⟩ := hrel
    have HT := Lib.hid ht
    clear ht
    by_cases hlt : k < xs.length ∧ k < ys.length
    · obtain ⟨g1, g2⟩ := hlt
      obtain ⟨b1, o1, x, rfl, q1, X⟩ := h1.at g1
      obtain ⟨b2, o2, y, rfl, q2, Y⟩ := h2.at g2
      have t1 : decide ((k : Int) < min (xs.length : Int) (ys.length : Int)) = true := by simp; omega
      cases he : (x != y)
      · have hxy : nth xs k = nth ys k := by rw [X.out, Y.out]; simpa using he
        have HXY := Lib.hid hxy
        clear hxy
        go_wp2
        go_quiet (fail)
        go_wp2
        go_roundw
        case rel => exact ⟨k + 1, _, by omega, by omega, by go_num, take_eq_step xs ys k g1 g2 HT.out HXY.out, rfl⟩
        case measure => simp [intOf]; omega
      · have hne : xs ≠ ys := fun h => by
          have h1 := X.out; have h2 := Y.out
          rw [h, h2] at h1; subst h1; simp at he
        have HNE := Lib.hid hne
        clear hne
        go_wp2
        go_quiet (fail)
        go_wp2
        go_ret
        exact ⟨ret_bool (decide_eq_false HNE.out).symm, drewN_two _ _ _⟩
    · have t1 : decide ((k : Int) < min (xs.length : Int) (ys.length : Int)) = false := by simp; omega
      cases he : ((xs.length : Int) == (ys.length : Int))
      · have hne : xs ≠ ys := fun h => by rw [h] at he; simp at he
        have HNE := Lib.hid hne
        clear hne hlt
        go_wp2
        go_ret
        exact ⟨ret_bool (decide_eq_false HNE.out).symm, _, rfl⟩
      · have hl : xs.length = ys.length := by have := (beq_iff_eq.1 he); omega
        have heq : xs = ys := by
          have h0 := HT.out
          rwa [List.take_of_length_le (by omega), List.take_of_length_le (by omega)] at h0
        have HE := Lib.hid heq
        clear heq hl hlt
        go_wp2
        go_ret
        exact ⟨ret_bool (decide_eq_true HE.out).symm, _, rfl⟩

/-- The same list twice. -/
theorem otSame_same (xs : List Int) (a1 a2 : Option Addr) (c1 c2 : Nat) (w : World) (hx : xs.length ≤ 1073741824) (h1 : IntsAt w a1 xs) (h2 : IntsAt w a2 xs) :
    Calls Tryz.prog 22 #[.slice a1 xs.length c1, .slice a2 xs.length c2] w fun e w' => e = .returned (.bool true) ∧ Below w.heap.size w w' := by
  refine (otSame_any a1 a2 c1 c2 xs xs w (by omega) (by omega) h1 h2).mono ?_
  rintro e w' ⟨rfl, n, rfl⟩
  exact ⟨by simp, below_drewN (Below.refl _ _) _⟩

theorem not_mem_take {zs : List Int} {n x : Int} {k : Nat} (hk : k < zs.length) (hx : nth zs k = x) (h : n ∉ zs.take k) (he : x ≠ n) : n ∉ zs.take (k + 1) := by
  have e : zs[k] = x := by simpa [nth, List.getElem?_eq_getElem hk] using hx
  rw [List.take_succ_eq_append_getElem hk, e]
  simp only [List.mem_append, List.mem_singleton]
  rintro (h1 | h1)
  · exact h h1
  · exact he h1.symm
theorem mem_at {zs : List Int} {k : Nat} {x : Int} (hk : k < zs.length) (hx : nth zs k = x) : x ∈ zs := by
  have e : zs[k] = x := by simpa [nth, List.getElem?_eq_getElem hk] using hx
  rw [← e]; exact List.getElem_mem hk

theorem count_sum (zs : List Int) : cnt keyP zs zs.length + cnt tombP zs zs.length + cnt freeP zs zs.length = zs.length := by
  simp only [cnt, List.take_length]
  induction zs with
  | nil => rfl
  | cons x zs ih =>
    simp only [List.countP_cons, List.length_cons]
    have : (if keyP x then 1 else 0) + (if tombP x then 1 else 0) + (if freeP x then 1 else 0) = (1 : Nat) := by
      unfold keyP tombP freeP
      by_cases h1 : x = -1
      · subst h1; rfl
      · by_cases h2 : x = -2
        · subst h2; rfl
        · simp [h1, h2]
    omega

theorem sortU_count {T : Tab} (h : validB T = true) : (sortU T.zs).length = cnt keyP T.zs T.zs.length := by
  obtain ⟨_, _, _, hg⟩ := valid_facts h
  rw [← sort_keys hg, List.length_mergeSort, cnt, List.take_length, List.countP_eq_length_filter]
  congr 1
  apply List.filter_congr
  intro x hx
  obtain ⟨i, hi, e⟩ := List.getElem_of_mem hx
  have hb := valid_slot h hi
  rw [nth, List.getElem?_eq_getElem hi, Option.getD_some, e] at hb
  unfold keyP inB
  rw [Bool.eq_iff_iff]
  simp
  omega

end Go.Proofs.YtblkafmamnimjaaGreatDoor

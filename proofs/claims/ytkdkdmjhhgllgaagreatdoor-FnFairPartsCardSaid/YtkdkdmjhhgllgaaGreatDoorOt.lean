/-
  The laws' own helpers: otSame, otHas.
-/
import Derived.Shelf.Small.Wraps
import Derived.Test.YtkdkdmjhhgllgaaGreatDoorSame
import Derived.Test.YtkdkdmjhhgllgaaGreatDoorMath
namespace Go.Proofs.YtkdkdmjhhgllgaaGreatDoor
open Go.RowKit
theorem not_mem_take {zs : List Int} {n x : Int} {k : Nat} (hk : k < zs.length) (hx : nth zs k = x) (h : n ∉ zs.take k) (he : x ≠ n) : n ∉ zs.take (k + 1) := by
  have e : zs[k] = x := by simpa [nth, List.getElem?_eq_getElem hk] using hx
  rw [List.take_succ_eq_append_getElem hk, e]
  simp only [List.mem_append, List.mem_singleton]
  rintro (h1 | h1)
  · exact h h1
  · exact he h1.symm
theorem mem_at {zs : List Int} {k : Nat} {x : Int} (hk : k < zs.length) (hx : nth zs k = x) : x ∈ zs := by
  have e : zs[k] = x := by simpa [nth, List.getElem?_eq_getElem hk] using hx
  rw [← e]; exact List.getElem_mem hk

theorem count_sum (zs : List Int) : cnt keyP zs zs.length + cnt tombP zs zs.length + cnt freeP zs zs.length = zs.length := by
  simp only [cnt, List.take_length]
  induction zs with
  | nil => rfl
  | cons x zs ih =>
    simp only [List.countP_cons, List.length_cons]
    have : (if keyP x then 1 else 0) + (if tombP x then 1 else 0) + (if freeP x then 1 else 0) = (1 : Nat) := by
      unfold keyP tombP freeP
      by_cases h1 : x = -1
      · subst h1; rfl
      · by_cases h2 : x = -2
        · subst h2; rfl
        · simp [h1, h2]
    omega

theorem sortU_count {T : Tab} (h : validB T = true) : (sortU T.zs).length = cnt keyP T.zs T.zs.length := by
  obtain ⟨_, _, _, hg⟩ := valid_facts h
  rw [← sort_keys hg, List.length_mergeSort, cnt, List.take_length, List.countP_eq_length_filter]
  congr 1
  apply List.filter_congr
  intro x hx
  obtain ⟨i, hi, e⟩ := List.getElem_of_mem hx
  have hb := valid_slot h hi
  rw [nth, List.getElem?_eq_getElem hi, Option.getD_some, e] at hb
  unfold keyP inB
  rw [Bool.eq_iff_iff]
  simp
  omega

end Go.Proofs.YtkdkdmjhhgllgaaGreatDoor

/-
  The keys of a valid table, sorted. No program.
-/
import Derived.Test.YtohpacgpmkpeaaaDoorTurn
namespace Go.Proofs.YtohpacgpmkpeaaaDoor

theorem good_nodup {zs : List Int} (h : Good zs zs.length) : (zs.filter fun x => inB x 0 99).Nodup := by
  rw [List.nodup_iff_pairwise_ne, List.pairwise_filter]
  rw [List.pairwise_iff_getElem]
  intro i j hi hj hij h1 h2 e
  have hi' : nth zs i = zs[i] := by simp [nth, List.getElem?_eq_getElem hi]
  have hj' : nth zs j = zs[j] := by simp [nth, List.getElem?_eq_getElem hj]
  have h3 := (inB_iff.1 h1).1
  have := h.inj hi hj (by rw [hi', hj', e]) (by rw [hi']; exact h3)
  omega

theorem sortU_pairwise (zs : List Int) : (sortU zs).Pairwise (· < ·) := by
  unfold sortU sortTo
  rw [List.pairwise_map]
  refine List.Pairwise.filter _ ?_
  refine List.pairwise_lt_range.imp ?_
  intro a b h
  omega

theorem sortU_mem {zs : List Int} {x : Int} : x ∈ sortU zs ↔ (0 ≤ x ∧ x ≤ 99) ∧ x ∈ zs := by
  unfold sortU
  rw [mem_sortTo]
  constructor
  · rintro ⟨k, hk, rfl, h⟩
    rcases fnd_cases zs (k : Int) with ⟨h1, _⟩ | ⟨j, hj, _, h2, _⟩
    · omega
    · refine ⟨by omega, ?_⟩
      rw [← h2, nth, List.getElem?_eq_getElem hj]
      exact List.getElem_mem hj
  · rintro ⟨⟨h0, h1⟩, h⟩
    obtain ⟨k, rfl⟩ : ∃ k : Nat, x = k := ⟨x.toNat, by omega⟩
    refine ⟨k, by omega, rfl, ?_⟩
    rcases fnd_cases zs (k : Int) with ⟨_, h2⟩ | ⟨j, hj, e, _⟩
    · obtain ⟨i, hi, e⟩ := List.getElem_of_mem h
      exact absurd (by rw [nth, List.getElem?_eq_getElem hi]; simpa using e) (h2 i hi)
    · omega

theorem sort_keys {zs : List Int} (h : Good zs zs.length) : ((zs.filter fun x => inB x 0 99).mergeSort fun x y => decide (x ≤ y)) = sortU zs := by
  have hp := List.mergeSort_perm (zs.filter fun x => inB x 0 99) (fun x y => decide (x ≤ y))
  have hs := List.pairwise_mergeSort (le := fun x y : Int => decide (x ≤ y)) (fun a b c h1 h2 => by simp at *; omega) (fun a b => by simp; omega) (zs.filter fun x => inB x 0 99)
  have hu := sortU_pairwise zs
  have hperm : (zs.filter fun x => inB x 0 99).Perm (sortU zs) := by
    rw [List.perm_ext_iff_of_nodup (good_nodup h) (hu.imp fun h => by omega)]
    intro x
    rw [List.mem_filter, sortU_mem, inB_iff]
    exact And.comm
  refine List.Perm.eq_of_pairwise (le := fun x y : Int => decide (x ≤ y) = true) (fun a b _ _ h1 h2 => ?_) hs (hu.imp fun h => ?_) (hp.trans hperm)
  · simp at h1 h2; omega
  · simp; omega

end Go.Proofs.YtohpacgpmkpeaaaDoor

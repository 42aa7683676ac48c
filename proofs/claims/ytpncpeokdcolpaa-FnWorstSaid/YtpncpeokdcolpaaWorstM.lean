/-
  A run begins at the worst home. No program of its own.
-/
import Derived.Test.YtpncpeokdcolpaaMath
import Derived.Test.YtpncpeokdcolpaaRunAtM
namespace Go.Proofs.Ytpncpeokdcolpaa

theorem worst_run {T : Tab} (hv : validB T = true) : countF T = 0 ∨ runAt T (worstTo T T.zs.length : Nat) = none ∨ ∃ q, runAt T (worstTo T T.zs.length : Nat) = some (worstTo T T.zs.length, q) := by
  obtain ⟨⟨l1, l2⟩, _⟩ := valid_facts hv
  have hwl : worstTo T T.zs.length < T.zs.length := worstTo_lt (by omega)
  by_cases c : cnt freeP T.zs T.zs.length = 0
  · exact .inl (by simp [countF, hv, c])
  · right
    obtain ⟨f, hf, hff⟩ := free_some c
    by_cases hw : nth T.zs (worstTo T T.zs.length) = -1
    · exact .inl (run_none hv hwl hw)
    · right
      obtain ⟨p, hp, sp, hin⟩ := run_open hwl hw hf hff
      have e := worst_opens hf hff rfl hp hin
      have := runAt_some hv hf hff hwl hp sp hin
      rw [e] at this
      exact ⟨_, this⟩
/-- Where a run begins and how it ends, as MissAt tells it. -/
theorem miss_run {T : Tab} (hv : validB T = true) {s : Nat} (hs : s < T.zs.length) : missI T s = missN T s ∧ ((countF T = 0 ∧ missN T s = T.zs.length) ∨
    (countF T ≠ 0 ∧ ((runAt T s = none ∧ missN T s = 1) ∨ ∃ p q d : Nat, runAt T s = some (p, q) ∧ p < T.zs.length ∧ q ≤ T.zs.length ∧ ((s : Int) - p + T.zs.length).tmod T.zs.length = d ∧ d < q ∧ missN T s + d = q + 1))) := by
  obtain ⟨⟨l1, l2⟩, _⟩ := valid_facts hv
  refine ⟨by simp [missI, hv, inB_true (n := (s : Int)) (lo := 0) (hi := T.zs.length - 1) (by omega)], ?_⟩
  by_cases c : cnt freeP T.zs T.zs.length = 0
  · exact .inl ⟨by simp [countF, hv, c], miss_full (free_none c) s l1⟩
  · right
    obtain ⟨f, hf, hff⟩ := free_some c
    refine ⟨by simp [countF, hv, c], ?_⟩
    by_cases hw : nth T.zs s = -1
    · exact .inl ⟨run_none hv hs hw, miss_free hs hw⟩
    · right
      obtain ⟨p, hp, sp, hin⟩ := run_open hs hw hf hff
      refine ⟨p, sizeFrom T p, (s + T.zs.length - p) % T.zs.length, runAt_some hv hf hff hs hp sp hin, hp, size_le T p, ?_, hin, miss_inner hf hff hp hs hin⟩
      rw [Int.tmod_eq_emod_of_nonneg (by omega), Int.natCast_emod]
      congr 1
      omega

end Go.Proofs.Ytpncpeokdcolpaa

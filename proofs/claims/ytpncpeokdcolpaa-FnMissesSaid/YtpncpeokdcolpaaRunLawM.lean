/-
  What the laws of runs ask: how far one looks for a key, and what is freed behind a run. No program of its own.
-/
import Derived.Test.YtpncpeokdcolpaaRunAtM
import Derived.Test.YtpncpeokdcolpaaMath
namespace Go.Proofs.Ytpncpeokdcolpaa

/-- A slot at which one stops bounds the visits. -/
theorem vis_le {T : Tab} {key : Int} {h i : Nat} (hs : stopAt T key h i = true) : visN T key h ≤ i + 1 := by
  unfold visN
  have : ¬ i < goN (stopAt T key h) T.zs.length := fun hlt => by rw [goN_free hlt] at hs; cases hs
  omega
theorem free_cnt {T : Tab} (hv : validB T = true) {i : Nat} (hi : i < T.zs.length) (h : nth T.zs i = -1) : 1 ≤ countF T := by
  simp only [countF, hv, if_true]
  have : 0 < cnt freeP T.zs T.zs.length := by
    unfold cnt
    rw [List.take_length, List.countP_pos_iff]
    exact ⟨nth T.zs i, by rw [nth, List.getElem?_eq_getElem hi]; exact List.getElem_mem hi, by simp [freeP, h]⟩
  omega

theorem bound_cases (T : Tab) (key : Int) : (visOf T key = -1 ∧ (validB T = false ∨ key < 0 ∨ 99 < key)) ∨
    ∃ v h : Nat, validB T = true ∧ visOf T key = v ∧ homeOf T key = h ∧ (h < T.zs.length ∧ 1 ≤ v ∧ v ≤ T.zs.length) ∧
      ((runAt T h = none ∧ v = 1) ∨ ∃ p q d : Nat, runAt T h = some (p, q) ∧ (p < T.zs.length ∧ q ≤ T.zs.length ∧ d < q) ∧ ((h : Int) - p + T.zs.length).tmod T.zs.length = d ∧ 0 ≤ countF T ∧ (countF T = 0 ∨ v + d ≤ q + 1)) := by
  cases ha : (validB T && inB key 0 99)
  · left
    refine ⟨by simp [visOf, ha], ?_⟩
    cases hv : validB T
    · exact .inl rfl
    · have : inB key 0 99 = false := by simpa [hv] using ha
      have := inB_false.1 this
      exact .inr (by omega)
  · right
    obtain ⟨hv, hk⟩ : validB T = true ∧ inB key 0 99 = true := by simpa using ha
    obtain ⟨k0, k9⟩ := inB_iff.1 hk
    obtain ⟨⟨l1, l2⟩, _⟩ := valid_facts hv
    have hb := visN_bounds l1 key (homeN T key)
    have hh := homeN_lt hv key
    have he := homeN_eq hv key
    refine ⟨visN T key (homeN T key), homeN T key, hv, by simp [visOf, ha], by rw [he]; exact (homeOf_yes hv (inB_true ⟨k0, k9⟩)).symm, ⟨hh, hb.1, hb.2⟩, ?_⟩
    by_cases hf : nth T.zs (homeN T key) = -1
    · refine .inl ⟨run_none hv hh hf, ?_⟩
      have h0 : stepS T (homeN T key) 0 = homeN T key := by rw [step_eq hh (by omega), if_pos (by omega)]; omega
      have := vis_le (T := T) (key := key) (h := homeN T key) (i := 0) (stop_free (by rw [h0]; exact hf))
      omega
    · obtain ⟨p, q, R⟩ := run_says hv hh hf
      refine .inr ⟨p, q, (homeN T key + T.zs.length - p) % T.zs.length, R.at_, ⟨R.p_lt, R.q_le, R.in_⟩, ?_, ?_, ?_⟩
      · have hp := R.p_lt
        rw [Int.tmod_eq_emod_of_nonneg (by omega), Int.natCast_emod]
        congr 1
        omega
      · simp [countF, hv]
      · by_cases hq : q < T.zs.length
        · have he := R.end_ hq
          have hd := R.in_
          have hst : stepS T (homeN T key) (q - (homeN T key + T.zs.length - p) % T.zs.length) = stepS T p q := by
            have hp := R.p_lt
            have A : (homeN T key + T.zs.length - p) % T.zs.length = if p ≤ homeN T key then homeN T key - p else homeN T key + T.zs.length - p := by
              by_cases h1 : p ≤ homeN T key
              · rw [if_pos h1, show homeN T key + T.zs.length - p = homeN T key - p + T.zs.length by omega, Nat.add_mod_right, Nat.mod_eq_of_lt (by omega)]
              · rw [if_neg h1, Nat.mod_eq_of_lt (by omega)]
            generalize (homeN T key + T.zs.length - p) % T.zs.length = a at A hd
            generalize homeN T key = h at *
            rw [step_eq hh (by omega), step_eq hp (by omega)]
            split at A <;> split <;> split <;> omega
          have := vis_le (T := T) (key := key) (h := homeN T key) (stop_free (by rw [hst]; exact he))
          exact .inr (by omega)
        · have := R.whole (by have := R.q_le; omega)
          refine .inl ?_
          simp only [countF, hv, if_true]
          have h0 : cnt freeP T.zs T.zs.length = 0 := cnt_none fun i hi => by have := this i hi; simp [freeP, this]
          omega

/-- A run that does not go all around: a free slot lies behind it. -/
theorem run_last {T : Tab} (hv : validB T = true) {r : Nat × Nat} (hr : r ∈ runsL T) (hq : r.2 ≠ T.zs.length) : r.1 < T.zs.length ∧ r.2 < T.zs.length ∧ 1 ≤ r.2 ∧ nth T.zs (stepS T r.1 r.2) = -1 := by
  obtain ⟨⟨l1, _⟩, _⟩ := valid_facts hv
  have h1 := runs_lt l1 hr
  have h2 := (runs_order hv).2 r hr
  refine ⟨h1.1, by omega, h2, ?_⟩
  unfold runsL at hr
  split at hr
  · simp at hr; subst hr; exact absurd rfl hq
  · unfold runsTo at hr
    obtain ⟨i, hi, rfl⟩ := List.mem_map.1 hr
    exact size_end (by have := h1.2; simp only at this hq ⊢; omega)
theorem last_int {T : Tab} {p q : Nat} (hq : 1 ≤ q) : ((p : Int) + q - 1).tmod T.zs.length = stepS T p (q - 1) := by
  rw [Int.tmod_eq_emod_of_nonneg (by omega), stepS, Int.natCast_emod]
  congr 1
  omega

/-- Who frees the last slot of a run loses no key. -/
theorem free_last {T : Tab} (hs : soundB T = true) {r : Nat × Nat} (hr : r ∈ runsL T) (hq : r.2 ≠ T.zs.length) : soundB (putAt T (stepS T r.1 (r.2 - 1)) (-1)) = true := by
  have hv := (sound_all.1 hs).1
  obtain ⟨⟨l1, _⟩, _⟩ := valid_facts hv
  obtain ⟨h1, h2, h3, h4⟩ := run_last hv hr hq
  have hl := stepS_lt (T := T) l1 r.1 (r.2 - 1)
  have hnth : ∀ i, nth (putAt T (stepS T r.1 (r.2 - 1)) (-1)).zs i = if i = stepS T r.1 (r.2 - 1) then -1 else nth T.zs i := fun i => nth_set hl _ i
  have hL : Less T (putAt T (stepS T r.1 (r.2 - 1)) (-1)) := ⟨rfl, rfl, putAt_len _ _ _, fun i hi => by
    rw [hnth]
    split
    · exact .inr (.inr rfl)
    · exact .inl rfl⟩
  refine sound_all.2 ⟨hL.valid hv, fun i hi h0 => ?_⟩
  rw [putAt_len] at hi
  have hne : i ≠ stepS T r.1 (r.2 - 1) := fun e => by rw [hnth, if_pos e] at h0; omega
  have hk : nth (putAt T (stepS T r.1 (r.2 - 1)) (-1)).zs i = nth T.zs i := by rw [hnth, if_neg hne]
  have h00 : 0 ≤ nth T.zs i := by rw [← hk]; exact h0
  refine hL.found hs hi h0 fun m hm hT => ?_
  rw [hnth]
  split
  · rename_i e
    exfalso
    -- the next step comes to the free slot
    have hh := homeN_lt hv (nth T.zs i)
    obtain ⟨a1, a2⟩ := step_away hh hi
    have hfi := (found_iff hv a2 (by rw [a1]) h00).1 (by rw [sound_find hs hi h00]; omega)
    have hn2 : stepS T (homeN T (nth T.zs i)) (m + 1) = stepS T r.1 r.2 := by
      rw [step_eq hh (by omega), step_eq h1 (by omega)] at e ⊢
      split at e <;> split at e <;> split <;> split <;> omega
    by_cases hm1 : m + 1 < (i + T.zs.length - homeN T (nth T.zs i)) % T.zs.length
    · exact hfi _ hm1 (by rw [hn2]; exact h4)
    · have : m + 1 = (i + T.zs.length - homeN T (nth T.zs i)) % T.zs.length := by omega
      rw [this, a1] at hn2
      rw [hn2] at h00
      omega
  · exact hT

end Go.Proofs.Ytpncpeokdcolpaa

/-
  Each slot that is not free lies in one run, whose slots all do. No program of its own.
-/
import Derived.Test.YtpncpeokdcolpaaMath
import Derived.Test.YtpncpeokdcolpaaRunAt
namespace Go.Proofs.Ytpncpeokdcolpaa

/-- The steps between two slots. -/
theorem away_int {T : Tab} {p s : Nat} (hp : p < T.zs.length) (hs : s < T.zs.length) : ((s : Int) - (p : Int)) % (T.zs.length : Int) = ((s + T.zs.length - p) % T.zs.length : Nat) := by
  rw [wsub (by omega) (by omega) (by omega) (by omega)]
  by_cases h : p ≤ s
  · rw [if_pos (by omega), show s + T.zs.length - p = s - p + T.zs.length by omega, Nat.add_mod_right, Nat.mod_eq_of_lt (by omega)]; omega
  · rw [if_neg (by omega), Nat.mod_eq_of_lt (by omega)]; omega

/-- A run opens ahead of each slot that is not free, if some slot is free. -/
theorem run_open {T : Tab} {s f : Nat} (hs : s < T.zs.length) (h : nth T.zs s ≠ -1) (hf : f < T.zs.length) (hff : nth T.zs f = -1) : ∃ p, p < T.zs.length ∧ startB T p = true ∧ (s + T.zs.length - p) % T.zs.length < sizeFrom T p := by
  have hn : 1 ≤ T.zs.length := by omega
  -- the least number of steps back to a free slot
  let back := fun k => (s + T.zs.length - k) % T.zs.length
  have hbl : ∀ k, back k < T.zs.length := fun k => Nat.mod_lt _ (by omega)
  have hbe : ∀ k, k ≤ T.zs.length → back k = if k ≤ s then s - k else s + T.zs.length - k := fun k hk => by
    show (s + T.zs.length - k) % T.zs.length = _
    by_cases h1 : k ≤ s
    · rw [if_pos h1, show s + T.zs.length - k = s - k + T.zs.length by omega, Nat.add_mod_right, Nat.mod_eq_of_lt (by omega)]
    · rw [if_neg h1, Nat.mod_eq_of_lt (by omega)]
  have hex : ∃ k, k < T.zs.length ∧ nth T.zs (back k) = -1 := by
    refine ⟨(s + T.zs.length - f) % T.zs.length, Nat.mod_lt _ (by omega), ?_⟩
    have h1 : (s + T.zs.length - f) % T.zs.length = if f ≤ s then s - f else s + T.zs.length - f := by
      by_cases h1 : f ≤ s
      · rw [if_pos h1, show s + T.zs.length - f = s - f + T.zs.length by omega, Nat.add_mod_right, Nat.mod_eq_of_lt (by omega)]
      · rw [if_neg h1, Nat.mod_eq_of_lt (by omega)]
    have h2 : back ((s + T.zs.length - f) % T.zs.length) = f := by
      rw [hbe _ (Nat.le_of_lt (Nat.mod_lt _ (by omega))), h1]
      split <;> split <;> omega
    rw [h2]; exact hff
  have hgo : ∃ k, (k < T.zs.length ∧ nth T.zs (back k) = -1) ∧ ∀ j, j < k → nth T.zs (back j) ≠ -1 := by
    obtain ⟨k, hk⟩ := hex
    induction k using Nat.strongRecOn with
    | _ k ih =>
      by_cases h1 : ∃ j, j < k ∧ nth T.zs (back j) = -1
      · obtain ⟨j, hj, e⟩ := h1
        exact ih j hj ⟨by omega, e⟩
      · exact ⟨k, hk, fun j hj e => h1 ⟨j, hj, e⟩⟩
  obtain ⟨k, ⟨hk, hke⟩, hkm⟩ := hgo
  have hk0 : k ≠ 0 := fun e => by
    subst e
    rw [hbe 0 (by omega), if_pos (by omega)] at hke
    exact h hke
  obtain ⟨m, rfl⟩ : ∃ m, k = m + 1 := ⟨k - 1, by omega⟩
  have e1 := hbe m (by omega)
  have e2 := hbe (m + 1) (by omega)
  have hpv : prevS T (back m) = back (m + 1) := by
    rw [prevS_eq (hbl m), e1, e2]
    split <;> split <;> split <;> omega
  refine ⟨back m, hbl m, ?_, ?_⟩
  · rw [startB_free hn hf hff (hbl m), hpv, hke]
    have := hkm m (by omega)
    simp [this]
  · have hst : ∀ j, j ≤ m → stepS T (back m) j = back (m - j) := fun j hj => by
      rw [step_eq (hbl m) (by omega), e1, hbe (m - j) (by omega)]
      split <;> split <;> split <;> omega
    have hge := size_ge (T := T) (i := back m) (k := m + 1) (by omega) (fun j hj => by
      rw [hst j (by omega)]
      exact hkm _ (by omega))
    have : (s + T.zs.length - back m) % T.zs.length = m := by
      rw [e1]
      split
      · rename_i h1
        rw [show s + T.zs.length - (s - m) = m + T.zs.length by omega, Nat.add_mod_right, Nat.mod_eq_of_lt (by omega)]
      · rw [show s + T.zs.length - (s + T.zs.length - m) = m by omega, Nat.mod_eq_of_lt (by omega)]
    omega

/-- Runs do not touch each other. -/
theorem run_same {T : Tab} {p q s f : Nat} (hf : f < T.zs.length) (hff : nth T.zs f = -1) (hp : p < T.zs.length) (hq : q < T.zs.length) (hs : s < T.zs.length) (sp : startB T p = true) (sq : startB T q = true)
    (h1 : (s + T.zs.length - p) % T.zs.length < sizeFrom T p) (h2 : (s + T.zs.length - q) % T.zs.length < sizeFrom T q) : p = q := by
  have hn : 1 ≤ T.zs.length := by omega
  have key : ∀ p q, p < T.zs.length → q < T.zs.length → startB T q = true → (s + T.zs.length - p) % T.zs.length < sizeFrom T p → (s + T.zs.length - q) % T.zs.length < (s + T.zs.length - p) % T.zs.length → False := by
    intro p q hp hq sq h1 hlt
    rw [startB_free hn hf hff hq] at sq
    have hpv : nth T.zs (prevS T q) = -1 := by
      by_cases e : nth T.zs (prevS T q) = -1
      · exact e
      · simp [e] at sq
    have md : ∀ x, x < T.zs.length → (s + T.zs.length - x) % T.zs.length = if x ≤ s then s - x else s + T.zs.length - x := fun x hx => by
      by_cases h1 : x ≤ s
      · rw [if_pos h1, show s + T.zs.length - x = s - x + T.zs.length by omega, Nat.add_mod_right, Nat.mod_eq_of_lt (by omega)]
      · rw [if_neg h1, Nat.mod_eq_of_lt (by omega)]
    have A := md p hp
    have B := md q hq
    generalize (s + T.zs.length - p) % T.zs.length = a at A h1 hlt
    generalize (s + T.zs.length - q) % T.zs.length = b at B hlt
    have hle := size_le T p
    have hst : stepS T p (a - b - 1) = prevS T q := by
      rw [step_eq hp (by omega), prevS_eq hq]
      split at A <;> split at B <;> split <;> split <;> omega
    exact size_in (T := T) (i := p) (j := a - b - 1) (by omega) (by rw [hst]; exact hpv)
  rcases Nat.lt_trichotomy ((s + T.zs.length - q) % T.zs.length) ((s + T.zs.length - p) % T.zs.length) with h | h | h
  · exact (key p q hp hq sq h1 h).elim
  · have md : ∀ x, x < T.zs.length → (s + T.zs.length - x) % T.zs.length = if x ≤ s then s - x else s + T.zs.length - x := fun x hx => by
      by_cases h1 : x ≤ s
      · rw [if_pos h1, show s + T.zs.length - x = s - x + T.zs.length by omega, Nat.add_mod_right, Nat.mod_eq_of_lt (by omega)]
      · rw [if_neg h1, Nat.mod_eq_of_lt (by omega)]
    rw [md p hp, md q hq] at h
    split at h <;> split at h <;> omega
  · exact (key q p hq hp sp h2 h).elim

/-- The run of a slot. -/
structure RunSays (T : Tab) (s p q : Nat) : Prop where
  at_ : runAt T s = some (p, q)
  p_lt : p < T.zs.length
  q_pos : 1 ≤ q
  q_le : q ≤ T.zs.length
  in_ : (s + T.zs.length - p) % T.zs.length < q
  all : ∀ i, i < q → nth T.zs (stepS T p i) ≠ -1 ∧ runAt T (stepS T p i : Nat) = some (p, q)
  end_ : q < T.zs.length → nth T.zs (stepS T p q) = -1
  whole : q = T.zs.length → ∀ i, i < T.zs.length → nth T.zs i ≠ -1

theorem runAt_eq {T : Tab} (hv : validB T = true) {s : Nat} (hs : s < T.zs.length) : runAt T s = (runsL T).find? (fun r => decide (((s : Int) - (r.1 : Int)) % T.zs.length < (r.2 : Int))) := by
  have : inB (s : Int) 0 (T.zs.length - 1) = true := inB_true (by omega)
  simp [runAt, hv, this]

theorem runAt_some {T : Tab} (hv : validB T = true) {s f p : Nat} (hf : f < T.zs.length) (hff : nth T.zs f = -1) (hs : s < T.zs.length) (hp : p < T.zs.length) (sp : startB T p = true) (h1 : (s + T.zs.length - p) % T.zs.length < sizeFrom T p) :
    runAt T s = some (p, sizeFrom T p) := by
  have hn : 1 ≤ T.zs.length := by omega
  rw [runAt_eq hv hs, runs_some hn hf hff]
  have hmem : (p, sizeFrom T p) ∈ runsTo T T.zs.length := List.mem_map.2 ⟨p, List.mem_filter.2 ⟨List.mem_range.2 hp, sp⟩, rfl⟩
  cases hfd : (runsTo T T.zs.length).find? (fun r => decide (((s : Int) - (r.1 : Int)) % T.zs.length < (r.2 : Int))) with
  | none =>
    have := List.find?_eq_none.1 hfd _ hmem
    simp only [decide_eq_true_eq, away_int hp hs] at this
    omega
  | some r =>
    have h2 := List.mem_of_find?_eq_some hfd
    have h3 := List.find?_some hfd
    obtain ⟨q, hq, rfl⟩ := List.mem_map.1 h2
    obtain ⟨hq1, hq2⟩ := List.mem_filter.1 hq
    have hq1 := List.mem_range.1 hq1
    simp only [decide_eq_true_eq, away_int hq1 hs] at h3
    have := run_same hf hff hp hq1 hs sp hq2 h1 (by omega)
    rw [this]

theorem run_says {T : Tab} (hv : validB T = true) {s : Nat} (hs : s < T.zs.length) (h : nth T.zs s ≠ -1) : ∃ p q, RunSays T s p q := by
  have hn : 1 ≤ T.zs.length := by omega
  by_cases hf : ∃ i, i < T.zs.length ∧ nth T.zs i = -1
  · obtain ⟨f, hf, hff⟩ := hf
    obtain ⟨p, hp, sp, hin⟩ := run_open hs h hf hff
    have hlt := size_lt hp hf hff
    refine ⟨p, sizeFrom T p, runAt_some hv hf hff hs hp sp hin, hp, by omega, size_le T p, hin, fun i hi => ⟨size_in hi, runAt_some hv hf hff (stepS_lt hn p i) hp sp ?_⟩, fun _ => size_end hlt, fun e => absurd e (by omega)⟩
    have hi2 : i < T.zs.length := by omega
    have : (stepS T p i + T.zs.length - p) % T.zs.length = i := by
      rw [step_eq hp (by omega)]
      split
      · rw [show p + i + T.zs.length - p = i + T.zs.length by omega, Nat.add_mod_right, Nat.mod_eq_of_lt hi2]
      · rw [show p + i - T.zs.length + T.zs.length - p = i by omega, Nat.mod_eq_of_lt hi2]
    omega
  · have hno : ∀ i, i < T.zs.length → nth T.zs i ≠ -1 := fun i hi h => hf ⟨i, hi, h⟩
    have hat : ∀ s, s < T.zs.length → runAt T s = some (0, T.zs.length) := fun s hs => by
      rw [runAt_eq hv hs, runs_full hn hno]
      have : decide (((s : Int) - ((0 : Nat) : Int)) % T.zs.length < (T.zs.length : Int)) = true := decide_eq_true (by rw [away_int (by omega) hs]; have := Nat.mod_lt (s + T.zs.length - 0) (show 0 < T.zs.length by omega); omega)
      rw [List.find?_cons_of_pos (by exact this)]
    exact ⟨0, T.zs.length, hat s hs, by omega, hn, Nat.le_refl _, Nat.mod_lt _ (by omega), fun i hi => ⟨hno _ (stepS_lt hn 0 i), hat _ (stepS_lt hn 0 i)⟩, fun e => absurd e (by omega), fun _ => hno⟩
/-- A free slot lies in no run. -/
theorem run_none {T : Tab} (hv : validB T = true) {s : Nat} (hs : s < T.zs.length) (h : nth T.zs s = -1) : runAt T s = none := by
  have hn : 1 ≤ T.zs.length := by omega
  rw [runAt_eq hv hs, runs_some hn hs h, List.find?_eq_none]
  intro r hr hd
  obtain ⟨q, hq, rfl⟩ := List.mem_map.1 hr
  have hq1 := List.mem_range.1 (List.mem_filter.1 hq).1
  simp only [decide_eq_true_eq, away_int hq1 hs] at hd
  have h1 := size_in (T := T) (i := q) (j := (s + T.zs.length - q) % T.zs.length) (by omega)
  rw [(step_away hq1 hs).1] at h1
  exact h1 h
theorem run_out {T : Tab} {slot : Int} (h : validB T = false ∨ inB slot 0 (T.zs.length - 1) = false) : runAt T slot = none := by
  rcases h with h | h <;> simp [runAt, h]

end Go.Proofs.Ytpncpeokdcolpaa

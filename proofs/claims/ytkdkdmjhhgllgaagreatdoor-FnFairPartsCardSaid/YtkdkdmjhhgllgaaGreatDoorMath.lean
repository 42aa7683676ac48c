/-
  Tables, finding, putting and runs as plain functions, and what is true of them. No program.
-/
import Derived.Test.YtkdkdmjhhgllgaaGreatDoorMathA
import Derived.RowKit3
import Derived.RangeFuncBox
import Derived.RangeFuncNested
import Derived.OwnWalkIn
namespace Go.Proofs.YtkdkdmjhhgllgaaGreatDoor

/-- The first slot of some steps that is free or a tomb, or -1. -/
def lookPl (T : Tab) (h : Nat) (pre : List Nat) : Int := ((pre.find? fun i => decide (nth T.zs (stepS T h i) < 0)).map fun i => (stepS T h i : Int)).getD (-1)
theorem lookPl_nil (T : Tab) (h : Nat) : lookPl T h [] = -1 := rfl
theorem lookPl_keep {T : Tab} {h : Nat} {pre : List Nat} {i : Nat} (hc : 0 ≤ lookPl T h pre ∨ 0 ≤ nth T.zs (stepS T h i)) : lookPl T h (pre ++ [i]) = lookPl T h pre := by
  unfold lookPl at *
  rw [List.find?_append]
  cases hf : pre.find? fun i => decide (nth T.zs (stepS T h i) < 0) with
  | some j => simp
  | none =>
    rcases hc with hc | hc
    · rw [hf] at hc; simp at hc
    · have : ¬ nth T.zs (stepS T h i) < 0 := by omega
      simp [this]
theorem lookPl_new {T : Tab} {h : Nat} {pre : List Nat} {i : Nat} (h1 : lookPl T h pre < 0) (h2 : nth T.zs (stepS T h i) < 0) : lookPl T h (pre ++ [i]) = stepS T h i := by
  unfold lookPl at *
  rw [List.find?_append]
  cases hf : pre.find? fun i => decide (nth T.zs (stepS T h i) < 0) with
  | some j => rw [hf] at h1; simp at h1; omega
  | none => simp [h2]
theorem lookPl_bounds {T : Tab} (hn : 1 ≤ T.zs.length) (h : Nat) (pre : List Nat) : -1 ≤ lookPl T h pre ∧ lookPl T h pre < T.zs.length := by
  unfold lookPl
  cases pre.find? fun i => decide (nth T.zs (stepS T h i) < 0) with
  | some j => have := stepS_lt hn h j; simp; omega
  | none => simp; omega
theorem firstLow_way (T : Tab) (h k : Nat) : firstLow T.zs (wayTo T h k) = lookPl T h (List.range k) := by
  unfold firstLow wayTo lookPl
  rw [List.find?_map]
  congr 2

/-- No step of these stops. -/
def Free' (T : Tab) (key : Int) (h : Nat) (pre : List Nat) : Prop := ∀ i, i ∈ pre → stopAt T key h i = false
theorem Free'.nil (T : Tab) (key : Int) (h : Nat) : Free' T key h [] := fun _ h => (by cases h)
theorem Free'.snoc {T : Tab} {key : Int} {h : Nat} {pre : List Nat} {i : Nat} (hp : Free' T key h pre) (hi : stopAt T key h i = false) : Free' T key h (pre ++ [i]) := by
  intro j hj
  rcases List.mem_append.1 hj with h1 | h1
  · exact hp j h1
  · obtain rfl := List.mem_singleton.1 h1; exact hi

theorem range_snoc {k : Nat} {pre : List Nat} {x : Nat} (h : List.range k = pre ++ [x]) : k = x + 1 ∧ pre = List.range x := by
  cases k with
  | zero => simp at h
  | succ k =>
    rw [List.range_succ] at h
    obtain ⟨h1, h2⟩ := List.append_inj' h rfl
    simp at h2
    subst h2
    exact ⟨rfl, h1.symm⟩

/-- What the search has found where it stops at the last of some steps. -/
theorem look_stop {T : Tab} {key : Int} {h k x : Nat} {pre : List Nat} (hh : homeN T key = h) (hk : k ≤ T.zs.length) (he : List.range k = pre ++ [x]) (hf : Free' T key h pre) (hs : stopAt T key h x = true) :
    visN T key (homeN T key) = (pre ++ [x]).length ∧ lastOf T key = stepS T h x ∧ wayOf T key = wayTo T h k ∧ List.range k = pre ++ [x] := by
  obtain ⟨rfl, rfl⟩ := range_snoc he
  have hv : visN T key h = x + 1 := visN_stop (by omega) (fun j hj => hf j (List.mem_range.2 hj)) hs
  subst hh
  refine ⟨by rw [hv]; simp, by rw [lastOf, hv]; rfl, by rw [wayOf, hv], he⟩
theorem look_found {T : Tab} {key : Int} {h k x : Nat} {pre : List Nat} (hh : homeN T key = h) (hk : k ≤ T.zs.length) (he : List.range k = pre ++ [x]) (hf : Free' T key h pre) (hs : nth T.zs (stepS T h x) = key) :
    visN T key (homeN T key) = (pre ++ [x]).length ∧ findI T key = stepS T h x := by
  obtain ⟨h1, h2, _, _⟩ := look_stop hh hk he hf (by simp [stopAt, hs])
  exact ⟨h1, by rw [findI, h2, if_pos hs]⟩
theorem look_free {T : Tab} {key : Int} {h k x : Nat} {pre : List Nat} (h0 : 0 ≤ key) (hh : homeN T key = h) (hk : k ≤ T.zs.length) (he : List.range k = pre ++ [x]) (hf : Free' T key h pre) (hs : nth T.zs (stepS T h x) = -1) :
    visN T key (homeN T key) = (pre ++ [x]).length ∧ findI T key = -1 ∧ firstLow T.zs (wayOf T key) = lookPl T h (pre ++ [x]) := by
  obtain ⟨h1, h2, h3, h4⟩ := look_stop hh hk he hf (by simp [stopAt, hs])
  refine ⟨h1, by rw [findI, h2, hs, if_neg (by omega)], ?_⟩
  rw [h3, firstLow_way, h4]
theorem look_none {T : Tab} {key : Int} {h : Nat} {pre : List Nat} (hn : 1 ≤ T.zs.length) (hh : homeN T key = h) (he : pre = List.range T.zs.length) (hf : Free' T key h pre) :
    visN T key (homeN T key) = pre.length ∧ findI T key = -1 ∧ firstLow T.zs (wayOf T key) = lookPl T h pre := by
  subst he
  have hv : visN T key h = T.zs.length := visN_all fun j hj => hf j (List.mem_range.2 hj)
  subst hh
  refine ⟨by rw [hv]; simp, ?_, by rw [wayOf, hv, firstLow_way]⟩
  have h2 : lastOf T key = stepS T (homeN T key) (T.zs.length - 1) := by rw [lastOf, hv]
  have := hf (T.zs.length - 1) (List.mem_range.2 (by omega))
  simp only [stopAt, Bool.or_eq_false_iff, beq_eq_false_iff_ne, ne_eq] at this
  rw [findI, h2, if_neg this.2]

end Go.Proofs.YtkdkdmjhhgllgaaGreatDoor

namespace Go.Proofs.YtkdkdmjhhgllgaaGreatDoor

theorem prevS_pos {T : Tab} {i : Nat} (h0 : 0 < i) (hi : i < T.zs.length) : prevS T i = i - 1 := by
  unfold prevS
  rw [show i + T.zs.length - 1 = i - 1 + T.zs.length by omega, Nat.add_mod_right, Nat.mod_eq_of_lt (by omega)]
theorem prevS_zero {T : Tab} (hn : 1 ≤ T.zs.length) : prevS T 0 = T.zs.length - 1 := by
  unfold prevS
  rw [Nat.zero_add, Nat.mod_eq_of_lt (by omega)]
theorem prev_tmod {T : Tab} (hn : 1 ≤ T.zs.length) (i : Nat) : ((i : Int) - 1) % (T.zs.length : Int) = (prevS T i : Int) := by
  rw [← prev_cast hn i, show (i : Int) + T.zs.length - 1 = (i : Int) - 1 + T.zs.length by omega, Int.add_emod_right]

theorem runsTo_nil {T : Tab} {k : Nat} (h : ∀ i, i < k → startB T i = false) : runsTo T k = [] := by
  induction k with
  | zero => rfl
  | succ k ih => rw [runsTo_no (h k (by omega))]; exact ih fun i hi => h i (by omega)
theorem runsTo_none {T : Tab} {k : Nat} (h : runsTo T k = []) : ∀ i, i < k → startB T i = false := by
  simp only [runsTo, List.map_eq_nil_iff, List.filter_eq_nil_iff, List.mem_range] at h
  intro i hi
  simpa using h i hi

/-- No slot is free: all are one run. -/
theorem runs_full {T : Tab} (hn : 1 ≤ T.zs.length) (h : ∀ i, i < T.zs.length → nth T.zs i ≠ -1) : runsL T = [(0, T.zs.length)] := by
  have h0 := h 0 (by omega)
  by_cases h1 : T.zs.length = 1
  · have hs : startB T 0 = true := by simp [startB, h1, h0]
    have e : runsTo T T.zs.length = [(0, sizeFrom T 0)] := by rw [h1, runsTo_yes hs]; rfl
    have hz : sizeFrom T 0 = T.zs.length := by
      refine goN_all fun j hj => ?_
      have := h (stepS T 0 j) (stepS_lt hn 0 j)
      simpa using this
    rw [runsL, if_neg (by rw [e]; simp), e, hz]
  · have e : runsTo T T.zs.length = [] := runsTo_nil fun i hi => by
      have := h _ (prevS_lt hn i)
      simp [startB, show 1 < T.zs.length by omega, this]
    rw [runsL, if_pos ⟨by rw [e]; rfl, h0⟩]

/-- Some slot is free: the runs open where one is not and the one ahead of it is. -/
theorem runs_some {T : Tab} (hn : 1 ≤ T.zs.length) {i : Nat} (hi : i < T.zs.length) (h : nth T.zs i = -1) : runsL T = runsTo T T.zs.length := by
  rw [runsL, if_neg]
  rintro ⟨h1, h0⟩
  have hs := runsTo_none (List.eq_nil_of_length_eq_zero h1)
  have back : ∀ j, j < T.zs.length → nth T.zs j ≠ -1 → nth T.zs (prevS T j) ≠ -1 := by
    intro j hj h2
    have := hs j hj
    have hb : (nth T.zs j != -1) = true := by simpa using h2
    rw [startB, hb, Bool.true_and, Bool.not_eq_false', Bool.and_eq_true] at this
    simpa using this.2
  have all : ∀ d, d < T.zs.length → nth T.zs (T.zs.length - 1 - d) ≠ -1 := by
    intro d
    induction d with
    | zero =>
      intro _
      have := back 0 (by omega) h0
      rwa [prevS_zero hn] at this
    | succ d ih =>
      intro hd
      have := back _ (by omega) (ih (by omega))
      rw [prevS_pos (by omega) (by omega)] at this
      rwa [show T.zs.length - 1 - (d + 1) = T.zs.length - 1 - d - 1 by omega]
  have := all (T.zs.length - 1 - i) (by omega)
  rw [show T.zs.length - 1 - (T.zs.length - 1 - i) = i by omega] at this
  exact this h

/-- A run opens where the program says it does: a slot that is not free behind one that is. -/
theorem startB_free {T : Tab} {j : Nat} (hn : 1 ≤ T.zs.length) (hj : j < T.zs.length) (h : nth T.zs j = -1) {i : Nat} (hi : i < T.zs.length) : startB T i = ((nth T.zs i != -1) && !(nth T.zs (prevS T i) != -1)) := by
  unfold startB
  by_cases h1 : 1 < T.zs.length
  · simp [h1]
  · obtain rfl : i = j := by omega
    simp [h]

/-- All of these steps come to slots that are not free. -/
def Taken' (T : Tab) (h : Nat) (pre : List Nat) : Prop := ∀ i, i ∈ pre → nth T.zs (stepS T h i) ≠ -1
theorem Taken'.nil (T : Tab) (h : Nat) : Taken' T h [] := fun _ h => (by cases h)
theorem Taken'.snoc {T : Tab} {h : Nat} {pre : List Nat} {i : Nat} (hp : Taken' T h pre) (hi : nth T.zs (stepS T h i) ≠ -1) : Taken' T h (pre ++ [i]) := by
  intro j hj
  rcases List.mem_append.1 hj with h1 | h1
  · exact hp j h1
  · obtain rfl := List.mem_singleton.1 h1; exact hi
theorem size_stop {T : Tab} {h k x : Nat} {pre : List Nat} (hk : k ≤ T.zs.length) (he : List.range k = pre ++ [x]) (hf : Taken' T h pre) (hs : nth T.zs (stepS T h x) = -1) : sizeFrom T h = pre.length := by
  obtain ⟨rfl, rfl⟩ := range_snoc he
  rw [sizeFrom, goN_eq (i := x) (by omega) (fun j hj => ?_) (by simp [hs])]
  · simp
  · have := hf j (List.mem_range.2 hj)
    simpa using this
theorem taken_all {T : Tab} (hn : 1 ≤ T.zs.length) {h i : Nat} (hi : i < T.zs.length) (hh : h < T.zs.length) (hf : Taken' T h (List.range T.zs.length)) : nth T.zs i ≠ -1 := by
  have := hf ((i + T.zs.length - h) % T.zs.length) (List.mem_range.2 (Nat.mod_lt _ (by omega)))
  rwa [stepS, Nat.add_mod_mod, show h + (i + T.zs.length - h) = i + T.zs.length by omega, Nat.add_mod_right, Nat.mod_eq_of_lt hi] at this

end Go.Proofs.YtkdkdmjhhgllgaaGreatDoor

namespace Go.Proofs.YtkdkdmjhhgllgaaGreatDoor

/-- The slot behind a slot. -/
def nextS (T : Tab) (i : Nat) : Nat := stepS T i 1
theorem nextS_eq {T : Tab} {i : Nat} (hi : i < T.zs.length) : nextS T i = if i + 1 < T.zs.length then i + 1 else 0 := by
  unfold nextS stepS
  by_cases h : i + 1 < T.zs.length
  · rw [if_pos h, Nat.mod_eq_of_lt h]
  · rw [if_neg h, show i + 1 = T.zs.length by omega, Nat.mod_self]
theorem prevS_eq {T : Tab} {i : Nat} (hi : i < T.zs.length) : prevS T i = if i = 0 then T.zs.length - 1 else i - 1 := by
  by_cases h : i = 0
  · subst h; rw [if_pos rfl, prevS_zero (by omega)]
  · rw [if_neg h, prevS_pos (by omega) hi]
theorem prev_next {T : Tab} {i : Nat} (hi : i < T.zs.length) : prevS T (nextS T i) = i := by
  have h1 := nextS_eq hi
  by_cases h : i + 1 < T.zs.length
  · rw [if_pos h] at h1
    rw [h1, prevS_eq h, if_neg (by omega)]; omega
  · rw [if_neg h] at h1
    rw [h1, prevS_eq (by omega), if_pos rfl]; omega
theorem step_eq {T : Tab} {h i : Nat} (hh : h < T.zs.length) (hi : i ≤ T.zs.length) : stepS T h i = if h + i < T.zs.length then h + i else h + i - T.zs.length := nadd hh hi
theorem step_next {T : Tab} {i j : Nat} (hi : i < T.zs.length) (hj : j + 1 ≤ T.zs.length) : stepS T (nextS T i) j = stepS T i (j + 1) := by
  have h1 := nextS_eq hi
  by_cases h : i + 1 < T.zs.length
  · rw [if_pos h] at h1
    rw [h1, step_eq h (by omega), step_eq hi hj]
    split <;> split <;> omega
  · rw [if_neg h] at h1
    rw [h1, step_eq (by omega) (by omega), step_eq hi hj]
    split <;> split <;> omega

def sumTo (f : Nat → Nat) : Nat → Nat
  | 0 => 0
  | k + 1 => sumTo f k + f k
theorem sumTo_add (f g : Nat → Nat) (k : Nat) : sumTo (fun i => f i + g i) k = sumTo f k + sumTo g k := by
  induction k with
  | zero => rfl
  | succ k ih => simp only [sumTo, ih]; omega
theorem sumTo_congr {f g : Nat → Nat} {k : Nat} (h : ∀ i, i < k → f i = g i) : sumTo f k = sumTo g k := by
  induction k with
  | zero => rfl
  | succ k ih => simp only [sumTo]; rw [ih fun i hi => h i (by omega), h k (by omega)]
theorem sumTo_le {f g : Nat → Nat} {k : Nat} (h : ∀ i, i < k → f i ≤ g i) : sumTo f k ≤ sumTo g k := by
  induction k with
  | zero => exact Nat.le_refl _
  | succ k ih => simp only [sumTo]; have := ih fun i hi => h i (by omega); have := h k (by omega); omega
theorem sumTo_turn {T : Tab} (hn : 1 ≤ T.zs.length) (f : Nat → Nat) : sumTo (fun i => f (nextS T i)) T.zs.length = sumTo f T.zs.length := by
  have key : ∀ k, k + 1 ≤ T.zs.length → sumTo (fun i => f (nextS T i)) k + f 0 = sumTo f (k + 1) := by
    intro k
    induction k with
    | zero => intro _; simp [sumTo]
    | succ k ih =>
      intro hk
      have := ih (by omega)
      have e : nextS T k = k + 1 := by rw [nextS_eq (by omega), if_pos (by omega)]
      have e1 : sumTo (fun i => f (nextS T i)) (k + 1) = sumTo (fun i => f (nextS T i)) k + f (nextS T k) := rfl
      have e2 : sumTo f (k + 1 + 1) = sumTo f (k + 1) + f (k + 1) := rfl
      rw [e1, e2, e]
      omega
  obtain ⟨m, hm⟩ : ∃ m, T.zs.length = m + 1 := ⟨T.zs.length - 1, by omega⟩
  have h1 := key m (by omega)
  have e : nextS T m = 0 := by rw [nextS_eq (by omega), if_neg (by omega)]
  have e1 : sumTo (fun i => f (nextS T i)) (m + 1) = sumTo (fun i => f (nextS T i)) m + f (nextS T m) := rfl
  rw [hm, e1, e]
  exact h1

theorem size_zero {T : Tab} {i : Nat} (hn : 1 ≤ T.zs.length) (hi : i < T.zs.length) (h : nth T.zs i = -1) : sizeFrom T i = 0 := by
  refine goN_eq (by omega) (fun j hj => by omega) ?_
  have : stepS T i 0 = i := by rw [step_eq hi (by omega), if_pos (by omega)]; omega
  simp [this, h]
/-- Steps of which none comes to a free slot. -/
theorem size_ge {T : Tab} {i k : Nat} (hk : k ≤ T.zs.length) (h : ∀ j, j < k → nth T.zs (stepS T i j) ≠ -1) : k ≤ sizeFrom T i := by
  refine Nat.not_lt.1 fun hlt => ?_
  have h1 := goN_stop (p := fun j => nth T.zs (stepS T i j) == -1) (n := T.zs.length) (by unfold sizeFrom at hlt; omega)
  have h2 := h _ hlt
  exact h2 (by simpa [sizeFrom] using h1)
theorem size_in {T : Tab} {i j : Nat} (h : j < sizeFrom T i) : nth T.zs (stepS T i j) ≠ -1 := by
  have := goN_free (p := fun j => nth T.zs (stepS T i j) == -1) (n := T.zs.length) h
  simpa using this
theorem size_end {T : Tab} {i : Nat} (h : sizeFrom T i < T.zs.length) : nth T.zs (stepS T i (sizeFrom T i)) = -1 := by
  have := goN_stop (p := fun j => nth T.zs (stepS T i j) == -1) (n := T.zs.length) h
  simpa [sizeFrom] using this
theorem size_le (T : Tab) (i : Nat) : sizeFrom T i ≤ T.zs.length := goN_le _ _
theorem size_lt {T : Tab} {i f : Nat} (hi : i < T.zs.length) (hf : f < T.zs.length) (h : nth T.zs f = -1) : sizeFrom T i < T.zs.length := by
  refine Nat.lt_of_le_of_ne (size_le T i) fun e => ?_
  obtain ⟨h1, h2⟩ := step_away hi hf
  exact size_in (T := T) (i := i) (j := (f + T.zs.length - i) % T.zs.length) (by omega) (by rw [h1]; exact h)
theorem size_next {T : Tab} {i f : Nat} (hi : i < T.zs.length) (h : nth T.zs i ≠ -1) (hf : f < T.zs.length) (hff : nth T.zs f = -1) : sizeFrom T i = sizeFrom T (nextS T i) + 1 := by
  have hn : 1 ≤ T.zs.length := by omega
  have hnl : nextS T i < T.zs.length := stepS_lt hn i 1
  have hlt := size_lt hnl hf hff
  have he := size_end hlt
  rw [step_next hi (by omega)] at he
  have h0 : stepS T i T.zs.length = i := by rw [step_eq hi (Nat.le_refl _), if_neg (by omega)]; omega
  have hne : sizeFrom T (nextS T i) + 1 ≠ T.zs.length := fun e => by
    rw [e, h0] at he
    exact h he
  refine goN_eq (by omega) (fun j hj => ?_) (by simp [he])
  cases j with
  | zero =>
    have : stepS T i 0 = i := by rw [step_eq hi (by omega), if_pos (by omega)]; omega
    simp [this, h]
  | succ j =>
    have := size_in (T := T) (i := nextS T i) (j := j) (by omega)
    rw [step_next hi (by omega)] at this
    simpa using this

theorem cnt_sum (p : Int → Bool) (zs : List Int) (k : Nat) (hk : k ≤ zs.length) : cnt p zs k = sumTo (fun i => if p (nth zs i) then 1 else 0) k := by
  induction k with
  | zero => simp [cnt_zero, sumTo]
  | succ k ih => rw [cnt_succ (by omega) rfl, ih (by omega)]; rfl
theorem runs_sum (T : Tab) (k : Nat) : ((runsTo T k).map Prod.snd).sum = sumTo (fun i => if startB T i then sizeFrom T i else 0) k ∧ (runsTo T k).length = sumTo (fun i => if startB T i then 1 else 0) k := by
  induction k with
  | zero => simp [runsTo, sumTo]
  | succ k ih =>
    cases h : startB T k
    · rw [runsTo_no h]
      simp only [sumTo, h]
      simpa using ih
    · rw [runsTo_yes h]
      simp only [sumTo, h, List.map_append, List.sum_append, List.length_append]
      simp [ih.1, ih.2]

/-- Together runs have all slots that are not free, and they are no more than free slots. -/
theorem runs_all {T : Tab} (hv : validB T = true) : (((runsL T).map Prod.snd).sum : Int) = countK T + countT T ∧ ((runsL T).length : Int) ≤ max (countF T) 1 := by
  obtain ⟨⟨l1, l2⟩, _⟩ := valid_facts hv
  have hall := cnt_all T.zs
  simp only [countK, countT, countF, hv, if_true]
  by_cases hf : ∃ i, i < T.zs.length ∧ nth T.zs i = -1
  · obtain ⟨f, hf, hff⟩ := hf
    have hs := fun i (hi : i < T.zs.length) => startB_free l1 hf hff hi
    obtain ⟨r1, r2⟩ := runs_sum T T.zs.length
    rw [runs_some l1 hf hff, r1, r2]
    have hcf := cnt_sum freeP T.zs T.zs.length (Nat.le_refl _)
    have e1 : sumTo (fun i => if startB T i then sizeFrom T i else 0) T.zs.length = sumTo (fun i => if nth T.zs (prevS T i) = -1 then sizeFrom T i else 0) T.zs.length := by
      refine sumTo_congr fun i hi => ?_
      rw [hs i hi]
      by_cases h1 : nth T.zs i = -1
      · rw [size_zero l1 hi h1]; simp
      · by_cases h2 : nth T.zs (prevS T i) = -1 <;> simp [h1, h2]
    have e2 : sumTo (fun i => if nth T.zs (prevS T (nextS T i)) = -1 then sizeFrom T (nextS T i) else 0) T.zs.length = sumTo (fun i => if nth T.zs (prevS T i) = -1 then sizeFrom T i else 0) T.zs.length := sumTo_turn l1 (fun i => if nth T.zs (prevS T i) = -1 then sizeFrom T i else 0)
    have e3 : sumTo (fun i => sizeFrom T (nextS T i)) T.zs.length = sumTo (sizeFrom T) T.zs.length := sumTo_turn l1 (sizeFrom T)
    have e4 : sumTo (fun i => sizeFrom T i + (if nth T.zs (prevS T (nextS T i)) = -1 then sizeFrom T (nextS T i) else 0)) T.zs.length = sumTo (fun i => (if freeP (nth T.zs i) then 0 else 1) + sizeFrom T (nextS T i)) T.zs.length := by
      refine sumTo_congr fun i hi => ?_
      rw [prev_next hi]
      by_cases h1 : nth T.zs i = -1
      · rw [size_zero l1 hi h1]; simp [h1, freeP]
      · rw [size_next hi h1 hf hff]; simp [h1, freeP]; omega
    rw [sumTo_add, sumTo_add] at e4
    have e9 : sumTo (fun i => sizeFrom T i) T.zs.length = sumTo (sizeFrom T) T.zs.length := rfl
    have e5 : sumTo (fun i => if freeP (nth T.zs i) then 0 else 1) T.zs.length + sumTo (fun i => if freeP (nth T.zs i) then 1 else 0) T.zs.length = T.zs.length := by
      rw [← sumTo_add]
      have : ∀ k, sumTo (fun i => (if freeP (nth T.zs i) then 0 else 1) + (if freeP (nth T.zs i) then 1 else 0)) k = k := by
        intro k
        induction k with
        | zero => rfl
        | succ k ih => simp only [sumTo, ih]; split <;> rfl
      exact this _
    have e6 : sumTo (fun i => if startB T i then 1 else 0) T.zs.length ≤ sumTo (fun i => if freeP (nth T.zs (prevS T i)) then 1 else 0) T.zs.length := sumTo_le fun i hi => by
      rw [hs i hi]
      by_cases h2 : nth T.zs (prevS T i) = -1
      · simp [h2, freeP]; split <;> omega
      · simp [h2, freeP]
    have e7 : sumTo (fun i => if freeP (nth T.zs (prevS T (nextS T i))) then 1 else 0) T.zs.length = sumTo (fun i => if freeP (nth T.zs (prevS T i)) then 1 else 0) T.zs.length := sumTo_turn l1 (fun i => if freeP (nth T.zs (prevS T i)) then 1 else 0)
    have e8 : sumTo (fun i => if freeP (nth T.zs (prevS T (nextS T i))) then 1 else 0) T.zs.length = sumTo (fun i => if freeP (nth T.zs i) then 1 else 0) T.zs.length := sumTo_congr fun i hi => by rw [prev_next hi]
    constructor <;> omega
  · have hno : ∀ i, i < T.zs.length → nth T.zs i ≠ -1 := fun i hi h => hf ⟨i, hi, h⟩
    have h0 : cnt freeP T.zs T.zs.length = 0 := cnt_none fun i hi => by have := hno i hi; simp [freeP, this]
    rw [runs_full l1 hno]
    simp
    omega

/-- The runs of a table: in order, none empty. -/
theorem runs_order {T : Tab} (hv : validB T = true) : (runsL T).Pairwise (fun a b => a.1 < b.1) ∧ ∀ r, r ∈ runsL T → 1 ≤ r.2 := by
  obtain ⟨⟨l1, l2⟩, _⟩ := valid_facts hv
  by_cases hf : ∃ i, i < T.zs.length ∧ nth T.zs i = -1
  · obtain ⟨f, hf, hff⟩ := hf
    rw [runs_some l1 hf hff]
    refine ⟨?_, fun r hr => ?_⟩
    · unfold runsTo
      refine List.Pairwise.map _ (fun _ _ h => h) (R := fun a b : Nat => a < b) ?_
      exact List.Pairwise.filter _ (List.pairwise_lt_range)
    · unfold runsTo at hr
      obtain ⟨i, hi, rfl⟩ := List.mem_map.1 hr
      obtain ⟨h1, h2⟩ := List.mem_filter.1 hi
      have h3 := List.mem_range.1 h1
      rw [startB_free l1 hf hff h3] at h2
      have h4 : nth T.zs i ≠ -1 := by
        intro e; rw [e] at h2; simp at h2
      show 1 ≤ sizeFrom T i
      rw [size_next h3 h4 hf hff]; omega
  · have hno : ∀ i, i < T.zs.length → nth T.zs i ≠ -1 := fun i hi h => hf ⟨i, hi, h⟩
    rw [runs_full l1 hno]
    exact ⟨List.pairwise_singleton _ _, fun r hr => by simp at hr; subst hr; exact l1⟩

end Go.Proofs.YtkdkdmjhhgllgaaGreatDoor

namespace Go.Proofs.YtkdkdmjhhgllgaaGreatDoor

/-- The sum of the first n values. -/
def sumU (f : Nat → Nat) (n : Nat) : Nat := ((List.range n).map f).sum
theorem sumU_succ (f : Nat → Nat) (n : Nat) : sumU f (n + 1) = sumU f n + f n := by
  simp [sumU, List.range_succ]
theorem sumU_congr {f g : Nat → Nat} {n : Nat} (h : ∀ i, i < n → f i = g i) : sumU f n = sumU g n := by
  induction n with
  | zero => rfl
  | succ n ih => rw [sumU_succ, sumU_succ, ih fun i hi => h i (by omega), h n (by omega)]
theorem sumU_add (f : Nat → Nat) (a b : Nat) : sumU f (a + b) = sumU f a + sumU (fun i => f (a + i)) b := by
  induction b with
  | zero => simp [sumU]
  | succ b ih => rw [← Nat.add_assoc, sumU_succ, ih, sumU_succ]; omega
theorem sumU_head (f : Nat → Nat) (k : Nat) : sumU f (k + 1) = f 0 + sumU (fun j => f (j + 1)) k := by
  rw [Nat.add_comm k 1, sumU_add]
  have : (fun i => f (1 + i)) = fun j => f (j + 1) := funext fun i => by rw [Nat.add_comm]
  rw [this]
  simp [sumU]
theorem sumU_one (n c : Nat) : sumU (fun _ => c) n = n * c := by
  induction n with
  | zero => simp [sumU]
  | succ n ih => rw [sumU_succ, ih, Nat.succ_mul]
theorem sumU_plus (f g : Nat → Nat) (n : Nat) : sumU (fun i => f i + g i) n = sumU f n + sumU g n := by
  induction n with
  | zero => rfl
  | succ n ih => rw [sumU_succ, sumU_succ, sumU_succ, ih]; omega
/-- Around the ring as along it. -/
theorem sum_turn (T : Tab) (f : Nat → Nat) {h : Nat} (hh : h < T.zs.length) : sumU (fun d => f (stepS T h d)) T.zs.length = sumU f T.zs.length := by
  have e1 : T.zs.length = (T.zs.length - h) + h := by omega
  have e2 : T.zs.length = h + (T.zs.length - h) := by omega
  have r1 : sumU (fun d => f (stepS T h d)) T.zs.length = sumU (fun d => f (h + d)) (T.zs.length - h) + sumU f h := by
    conv => lhs; rw [show sumU (fun d => f (stepS T h d)) T.zs.length = sumU (fun d => f (stepS T h d)) ((T.zs.length - h) + h) by rw [← e1]]
    rw [sumU_add]
    congr 1
    · exact sumU_congr fun i hi => by rw [step_eq hh (by omega), if_pos (by omega)]
    · exact sumU_congr fun i hi => by
        rw [step_eq hh (by omega), if_neg (by omega)]
        congr 1
        omega
  have r2 : sumU f T.zs.length = sumU f h + sumU (fun d => f (h + d)) (T.zs.length - h) := by
    conv => lhs; rw [show sumU f T.zs.length = sumU f (h + (T.zs.length - h)) by rw [← e2]]
    rw [sumU_add]
  omega

/-- 1 + 2 + .. + x. -/
def tri (x : Nat) : Nat := x * (x + 1) / 2
theorem tri_succ (x : Nat) : tri (x + 1) = tri x + x + 1 := by
  unfold tri
  have e : (x + 1) * (x + 1 + 1) = x * (x + 1) + 2 * (x + 1) := by simp only [Nat.mul_add, Nat.add_mul]; omega
  rw [e]
  generalize x * (x + 1) = y
  omega
theorem tri_zero : tri 0 = 0 := rfl

/-- Sums over the rest of a ring that ends at a free slot. -/
theorem run_sums (n : Nat) (z : Nat → Nat) (st : Nat → Bool) (h2 : ∀ d, d + 1 < n → z d ≠ 0 → z d = z (d + 1) + 1) (h3 : ∀ d, d + 1 < n → (st (d + 1) = true ↔ z (d + 1) ≠ 0 ∧ z d = 0)) (h4 : ∀ d, d + 1 = n → z d = 0) :
    ∀ k e, e + (k + 1) = n → sumU (fun j => z (e + j)) (k + 1) = sumU (fun j => if st (e + j) then tri (z (e + j)) else 0) (k + 1) + (if st e then 0 else tri (z e)) := by
  intro k
  induction k with
  | zero =>
    intro e he
    have := h4 e (by omega)
    simp [sumU, this, tri_zero]
  | succ k ih =>
    intro e he
    rw [sumU_head, sumU_head (fun j => if st (e + j) then tri (z (e + j)) else 0)]
    have E1 : (fun j => z (e + (j + 1))) = fun j => z (e + 1 + j) := funext fun j => by congr 1; omega
    have E2 : (fun j => if st (e + (j + 1)) then tri (z (e + (j + 1))) else 0) = fun j => if st (e + 1 + j) then tri (z (e + 1 + j)) else 0 := funext fun j => by
      rw [show e + (j + 1) = e + 1 + j by omega]
    rw [E1, E2, ih (e + 1) (by omega), Nat.add_zero]
    have a2 := h2 e (by omega)
    have a3 := h3 e (by omega)
    by_cases c : z e = 0
    · have t0 : tri (z e) = 0 := by rw [c]; rfl
      have : (if st (e + 1) then 0 else tri (z (e + 1))) = 0 := by
        by_cases c2 : z (e + 1) = 0
        · rw [c2, tri_zero]; split <;> rfl
        · rw [if_pos (a3.2 ⟨c2, c⟩)]
      rw [this, t0, c]
      simp
    · have hs : st (e + 1) = false := by
        cases hs : st (e + 1)
        · rfl
        · exact absurd (a3.1 hs).2 c
      have e4 := a2 c
      rw [hs, e4, tri_succ]
      simp only [Bool.false_eq_true, if_false]
      split <;> omega
theorem run_bound (n : Nat) (z : Nat → Nat) (h2 : ∀ d, d + 1 < n → z d ≠ 0 → z d = z (d + 1) + 1) (h4 : ∀ d, d + 1 = n → z d = 0) :
    ∀ k e, e + (k + 1) = n → z e ≤ sumU (fun j => if z (e + j) = 0 then 0 else 1) (k + 1) ∧ sumU (fun j => z (e + j)) (k + 1) ≤ tri (sumU (fun j => if z (e + j) = 0 then 0 else 1) (k + 1)) := by
  intro k
  induction k with
  | zero =>
    intro e he
    have := h4 e (by omega)
    simp [sumU, this]
  | succ k ih =>
    intro e he
    rw [sumU_head (fun j => z (e + j)), sumU_head (fun j => if z (e + j) = 0 then 0 else 1)]
    have E1 : (fun j => z (e + (j + 1))) = fun j => z (e + 1 + j) := funext fun j => by congr 1; omega
    have E2 : (fun j => if z (e + (j + 1)) = 0 then 0 else 1) = fun j => if z (e + 1 + j) = 0 then 0 else 1 := funext fun j => by
      rw [show e + (j + 1) = e + 1 + j by omega]
    rw [E1, E2, Nat.add_zero]
    obtain ⟨i1, i2⟩ := ih (e + 1) (by omega)
    have a2 := h2 e (by omega)
    by_cases c : z e = 0
    · rw [if_pos c, c]
      simp only [Nat.zero_add]
      exact ⟨Nat.zero_le _, i2⟩
    · rw [if_neg c]
      have e4 := a2 c
      generalize sumU (fun j => if z (e + 1 + j) = 0 then 0 else 1) (k + 1) = cc at i1 i2
      rw [Nat.add_comm 1 cc, tri_succ]
      omega

/-- What lies from a slot that is not free on. -/
theorem sizeU_next {T : Tab} {i f : Nat} (hi : i < T.zs.length) (hf : f < T.zs.length) (hff : nth T.zs f = -1) (h : nth T.zs i ≠ -1) : sizeFrom T i = sizeFrom T (stepS T i 1) + 1 := by
  have hn : 1 ≤ T.zs.length := by omega
  have hlt := size_lt (stepS_lt hn i 1) hf hff
  have hend := size_end hlt
  have hst : ∀ j, stepS T (stepS T i 1) j = stepS T i (1 + j) := fun j => by
    unfold stepS
    rw [Nat.mod_add_mod, Nat.add_assoc]
  have hb : sizeFrom T (stepS T i 1) + 1 < T.zs.length := by
    by_cases c : sizeFrom T (stepS T i 1) + 1 = T.zs.length
    · rw [hst, show 1 + sizeFrom T (stepS T i 1) = T.zs.length by omega] at hend
      have : stepS T i T.zs.length = i := by unfold stepS; rw [Nat.add_mod_right, Nat.mod_eq_of_lt hi]
      rw [this] at hend
      exact absurd hend h
    · omega
  refine goN_eq hb (fun j hj => ?_) ?_
  · by_cases c : j = 0
    · subst c
      have : stepS T i 0 = i := Nat.mod_eq_of_lt hi
      rw [this]; simpa using h
    · have := size_in (T := T) (i := stepS T i 1) (j := j - 1) (by omega)
      rw [hst, show 1 + (j - 1) = j by omega] at this
      simpa using this
  · rw [hst, Nat.add_comm 1] at hend
    simpa using hend
theorem sizeU_zero {T : Tab} {i : Nat} (hi : i < T.zs.length) (h : nth T.zs i = -1) : sizeFrom T i = 0 := by
  refine goN_eq (by omega) (fun j hj => by omega) ?_
  have : stepS T i 0 = i := Nat.mod_eq_of_lt hi
  rw [this]; simpa using h
theorem size_pos {T : Tab} {i : Nat} (h : sizeFrom T i ≠ 0) (hi : i < T.zs.length) : nth T.zs i ≠ -1 := fun e => h (sizeU_zero hi e)

/-- The misses where a slot is free: one more than what lies ahead. -/
theorem miss_size {T : Tab} {f : Nat} (hf : f < T.zs.length) (hff : nth T.zs f = -1) {i : Nat} (hi : i < T.zs.length) : missN T i = sizeFrom T i + 1 := by
  have := size_lt hi hf hff
  show min (sizeFrom T i + 1) T.zs.length = _
  omega
theorem miss_full {T : Tab} (hno : ∀ i, i < T.zs.length → nth T.zs i ≠ -1) (i : Nat) (hn : 1 ≤ T.zs.length) : missN T i = T.zs.length :=
  cntN_all fun j _ => by
    have := hno _ (stepS_lt hn i j)
    simpa [freeAt] using this
theorem missTo_sum (T : Tab) (k : Nat) : missTo T k = sumU (missN T) k := rfl
theorem miss_total_full {T : Tab} (hno : ∀ i, i < T.zs.length → nth T.zs i ≠ -1) : missTo T T.zs.length = T.zs.length * T.zs.length := by
  rw [missTo_sum, sumU_congr (g := fun _ => T.zs.length) fun i hi => miss_full hno i (by omega), sumU_one]
theorem miss_total {T : Tab} {f : Nat} (hf : f < T.zs.length) (hff : nth T.zs f = -1) : missTo T T.zs.length = T.zs.length + sumU (sizeFrom T) T.zs.length := by
  rw [missTo_sum, sumU_congr (g := fun i => 1 + sizeFrom T i) fun i hi => by rw [miss_size hf hff hi, Nat.add_comm], sumU_plus, sumU_one, Nat.mul_one]

/-- The ring from behind a free slot on. -/
theorem ring_from {T : Tab} {f : Nat} (hf : f < T.zs.length) (hff : nth T.zs f = -1) :
    (∀ d, d + 1 < T.zs.length → sizeFrom T (stepS T (stepS T f 1) d) ≠ 0 → sizeFrom T (stepS T (stepS T f 1) d) = sizeFrom T (stepS T (stepS T f 1) (d + 1)) + 1) ∧
    (∀ d, d + 1 = T.zs.length → sizeFrom T (stepS T (stepS T f 1) d) = 0) := by
  have hn : 1 ≤ T.zs.length := by omega
  have hst : ∀ h j k, stepS T (stepS T h j) k = stepS T h (j + k) := fun h j k => by
    unfold stepS
    rw [Nat.mod_add_mod, Nat.add_assoc]
  refine ⟨fun d _ h => ?_, fun d hd => ?_⟩
  · have hp := size_pos h (stepS_lt hn _ _)
    rw [sizeU_next (stepS_lt hn _ _) hf hff hp, hst (stepS T f 1) d 1]
  · rw [hst, show 1 + d = T.zs.length by omega]
    have : stepS T f T.zs.length = f := by unfold stepS; rw [Nat.add_mod_right, Nat.mod_eq_of_lt hf]
    rw [this, sizeU_zero hf hff]

theorem sum_filter (p : Nat → Bool) (f : Nat → Nat) (n : Nat) : (((List.range n).filter p).map f).sum = sumU (fun i => if p i then f i else 0) n := by
  induction n with
  | zero => rfl
  | succ n ih =>
    rw [List.range_succ, List.filter_append, List.map_append, List.sum_append, ih, sumU_succ]
    cases h : p n <;> simp [h]

/-- Runs tell what is visited in vain. -/
theorem miss_runs {T : Tab} {f : Nat} (hf : f < T.zs.length) (hff : nth T.zs f = -1) : missTo T T.zs.length = T.zs.length + ((runsL T).map fun r => tri r.2).sum := by
  have hn : 1 ≤ T.zs.length := by omega
  have hst : ∀ h j k, stepS T (stepS T h j) k = stepS T h (j + k) := fun h j k => by
    unfold stepS
    rw [Nat.mod_add_mod, Nat.add_assoc]
  obtain ⟨r2, r4⟩ := ring_from hf hff
  rw [miss_total hf hff, runs_some hn hf hff]
  congr 1
  unfold runsTo
  rw [List.map_map, sum_filter (startB T) ((fun r : Nat × Nat => tri r.2) ∘ fun i => (i, sizeFrom T i))]
  have hh := stepS_lt (T := T) hn f 1
  rw [← sum_turn T (sizeFrom T) hh, ← sum_turn T (fun i => if startB T i then ((fun r : Nat × Nat => tri r.2) ∘ fun i => (i, sizeFrom T i)) i else 0) hh]
  have hprev : ∀ d, prevS T (stepS T (stepS T f 1) d) = stepS T f d := fun d => by
    unfold prevS stepS
    have h1 : ((f + 1) % T.zs.length + d) % T.zs.length = (f + d + 1) % T.zs.length := by rw [Nat.mod_add_mod]; congr 1; omega
    rw [h1]
    have hc : (f + d + 1) % T.zs.length = if (f + d) % T.zs.length + 1 = T.zs.length then 0 else (f + d) % T.zs.length + 1 := by
      have := Nat.mod_lt (f + d) (show 0 < T.zs.length by omega)
      rw [← Nat.mod_add_mod]
      split
      · rename_i e; rw [e, Nat.mod_self]
      · exact Nat.mod_eq_of_lt (by omega)
    have hl := Nat.mod_lt (f + d) (show 0 < T.zs.length by omega)
    rw [hc]
    split
    · rw [Nat.zero_add, Nat.mod_eq_of_lt (by omega)]; omega
    · rw [show (f + d) % T.zs.length + 1 + T.zs.length - 1 = (f + d) % T.zs.length + T.zs.length by omega, Nat.add_mod_right, Nat.mod_eq_of_lt hl]
  have hstart : ∀ d, startB T (stepS T (stepS T f 1) d) = true ↔ (sizeFrom T (stepS T (stepS T f 1) d) ≠ 0 ∧ nth T.zs (stepS T f d) = -1) := fun d => by
    rw [startB_free hn hf hff (stepS_lt hn _ _), hprev]
    have hz : sizeFrom T (stepS T (stepS T f 1) d) ≠ 0 ↔ nth T.zs (stepS T (stepS T f 1) d) ≠ -1 :=
      ⟨fun h => size_pos h (stepS_lt hn _ _), fun h e => by rw [sizeU_next (stepS_lt hn _ _) hf hff h] at e; omega⟩
    rw [hz]
    simp
  have hS := run_sums T.zs.length (fun d => sizeFrom T (stepS T (stepS T f 1) d)) (fun d => startB T (stepS T (stepS T f 1) d)) r2 (fun d _ => by
    rw [hstart (d + 1), hst f 1 (d + 1), show f = f from rfl, Nat.add_comm d 1, ← hst f 1 d]
    constructor
    · rintro ⟨a, b⟩; exact ⟨a, sizeU_zero (stepS_lt hn _ _) b⟩
    · rintro ⟨a, b⟩
      refine ⟨a, ?_⟩
      by_cases c : nth T.zs (stepS T (stepS T f 1) d) = -1
      · exact c
      · rw [sizeU_next (stepS_lt hn _ _) hf hff c] at b
        omega) r4 (T.zs.length - 1) 0 (by omega)
  rw [show T.zs.length - 1 + 1 = T.zs.length by omega] at hS
  simp only [Nat.zero_add] at hS
  rw [hS]
  have h00 : (if startB T (stepS T (stepS T f 1) 0) then 0 else tri (sizeFrom T (stepS T (stepS T f 1) 0))) = 0 := by
    split
    · rfl
    · rename_i hns
      have : ¬ (sizeFrom T (stepS T (stepS T f 1) 0) ≠ 0) := fun h => hns ((hstart 0).2 ⟨h, by
        have : stepS T f 0 = f := Nat.mod_eq_of_lt hf
        rw [this]; exact hff⟩)
      rw [show sizeFrom T (stepS T (stepS T f 1) 0) = 0 by omega, tri_zero]
  rw [h00]
  rfl
theorem miss_spread {T : Tab} {f : Nat} (hf : f < T.zs.length) (hff : nth T.zs f = -1) {k : Nat} (hk : sumU (fun i => if nth T.zs i = -1 then 0 else 1) T.zs.length = k) :
    T.zs.length + k ≤ missTo T T.zs.length ∧ missTo T T.zs.length ≤ T.zs.length + tri k := by
  have hn : 1 ≤ T.zs.length := by omega
  obtain ⟨r2, r4⟩ := ring_from hf hff
  have hh := stepS_lt (T := T) hn f 1
  have hz : ∀ i, i < T.zs.length → ((if nth T.zs i = -1 then 0 else 1) = if sizeFrom T i = 0 then 0 else 1) := fun i hi => by
    by_cases c : nth T.zs i = -1
    · rw [if_pos c, if_pos (sizeU_zero hi c)]
    · rw [if_neg c, if_neg (by rw [sizeU_next hi hf hff c]; omega)]
  rw [sumU_congr hz] at hk
  rw [miss_total hf hff]
  have hb := (run_bound T.zs.length (fun d => sizeFrom T (stepS T (stepS T f 1) d)) r2 r4 (T.zs.length - 1) 0 (by omega)).2
  rw [show T.zs.length - 1 + 1 = T.zs.length by omega] at hb
  simp only [Nat.zero_add] at hb
  rw [sum_turn T (sizeFrom T) hh, sum_turn T (fun i => if sizeFrom T i = 0 then 0 else 1) hh, hk] at hb
  refine ⟨?_, by omega⟩
  have hle : ∀ n, sumU (fun i => if sizeFrom T i = 0 then 0 else 1) n ≤ sumU (sizeFrom T) n := fun n => by
    induction n with
    | zero => exact Nat.le_refl _
    | succ n ih =>
      rw [sumU_succ, sumU_succ]
      have : (if sizeFrom T n = 0 then 0 else 1) ≤ sizeFrom T n := by split <;> omega
      omega
  have := hle T.zs.length
  omega

end Go.Proofs.YtkdkdmjhhgllgaaGreatDoor

namespace Go.Proofs.YtkdkdmjhhgllgaaGreatDoor

theorem size_inner {T : Tab} {p f : Nat} (hf : f < T.zs.length) (hff : nth T.zs f = -1) {d : Nat} (hp : p < T.zs.length) (hd : d ≤ sizeFrom T p) : sizeFrom T (stepS T p d) + d = sizeFrom T p := by
  have hn : 1 ≤ T.zs.length := by omega
  induction d with
  | zero => rw [show stepS T p 0 = p from Nat.mod_eq_of_lt hp]; rfl
  | succ d ih =>
    have h1 := ih (by omega)
    have h2 := size_in (T := T) (i := p) (j := d) (by omega)
    have h3 := sizeU_next (stepS_lt hn p d) hf hff h2
    have h4 : stepS T (stepS T p d) 1 = stepS T p (d + 1) := by
      unfold stepS
      rw [Nat.mod_add_mod, Nat.add_assoc]
    rw [h4] at h3
    omega
/-- What is visited from a slot of a run on. -/
theorem miss_inner {T : Tab} {p f s : Nat} (hf : f < T.zs.length) (hff : nth T.zs f = -1) (hp : p < T.zs.length) (hs : s < T.zs.length) (hd : (s + T.zs.length - p) % T.zs.length < sizeFrom T p) :
    missN T s + (s + T.zs.length - p) % T.zs.length = sizeFrom T p + 1 := by
  have h1 := size_inner hf hff hp (d := (s + T.zs.length - p) % T.zs.length) (by omega)
  rw [(step_away hp hs).1] at h1
  rw [miss_size hf hff hs]
  omega
theorem miss_free {T : Tab} {f : Nat} (hf : f < T.zs.length) (hff : nth T.zs f = -1) : missN T f = 1 := by
  rw [miss_size hf hff hf, sizeU_zero hf hff]

theorem worst_to (T : Tab) (k : Nat) : (∀ i, i < k → missN T i ≤ missN T (worstTo T k)) ∧ (∀ i, i < worstTo T k → missN T i < missN T (worstTo T k)) := by
  induction k with
  | zero => exact ⟨fun i hi => by omega, fun i hi => by simp [worstTo] at hi⟩
  | succ k ih =>
    obtain ⟨h1, h2⟩ := ih
    by_cases c : missN T (worstTo T k) < missN T k
    · have e : worstTo T (k + 1) = k := by simp [worstTo, c]
      rw [e]
      refine ⟨fun i hi => ?_, fun i hi => ?_⟩
      · by_cases ci : i = k
        · subst ci; exact Nat.le_refl _
        · have := h1 i (by omega); omega
      · have := h1 i hi; omega
    · have e : worstTo T (k + 1) = worstTo T k := by simp [worstTo, c]
      rw [e]
      refine ⟨fun i hi => ?_, h2⟩
      by_cases ci : i = k
      · subst ci; omega
      · exact h1 i (by omega)
/-- A run opens where most is visited. -/
theorem worst_opens {T : Tab} {f p w : Nat} (hf : f < T.zs.length) (hff : nth T.zs f = -1) (hw : w = worstTo T T.zs.length) (hp : p < T.zs.length) (hd : (w + T.zs.length - p) % T.zs.length < sizeFrom T p) : p = w := by
  have hwl : w < T.zs.length := by subst hw; exact worstTo_lt (by omega)
  have h1 := miss_inner hf hff hp hwl hd
  have h2 := miss_size hf hff hp
  have h3 := (worst_to T T.zs.length).1 p hp
  rw [← hw] at h3
  have h0 : (w + T.zs.length - p) % T.zs.length = 0 := by omega
  by_cases c : p ≤ w
  · rw [show w + T.zs.length - p = w - p + T.zs.length by omega, Nat.add_mod_right, Nat.mod_eq_of_lt (by omega)] at h0
    omega
  · rw [Nat.mod_eq_of_lt (by omega)] at h0
    omega

/-- Where a key is not there, it is looked for up to a free slot. -/
theorem vis_miss {T : Tab} {key : Int} (h : key ∉ T.zs) (hn : 1 ≤ T.zs.length) (i : Nat) : visN T key i = missN T i := by
  have : stopAt T key i = freeAt T i := funext fun d => by
    have : nth T.zs (stepS T i d) ≠ key := fun e => h (e ▸ nth_mem (stepS_lt hn i d))
    simp [stopAt, freeAt, this]
  unfold visN missN cntN
  rw [this]

theorem goN_mono {p q : Nat → Bool} {n : Nat} (h : ∀ d, d < n → p d = true → q d = true) : goN q n ≤ goN p n := by
  by_cases c : goN p n < n
  · refine Nat.le_of_not_lt fun hlt => ?_
    have h1 := goN_stop c
    have h2 := goN_free hlt
    rw [h _ c h1] at h2
    cases h2
  · have := goN_le q n
    have := goN_le p n
    omega

end Go.Proofs.YtkdkdmjhhgllgaaGreatDoor

namespace Go.Proofs.YtkdkdmjhhgllgaaGreatDoor

def mostTo (T : Tab) : Nat → Int
  | 0 => 0
  | j + 1 => max (mostTo T j) (awayOf T j)
def totTo (T : Tab) : Nat → Int
  | 0 => 0
  | j + 1 => totTo T j + max (awayOf T j) 0
def mostAway (T : Tab) : Int := if validB T then mostTo T T.zs.length else -1
def totalAway (T : Tab) : Int := if validB T then totTo T T.zs.length else -1

theorem awayOf_bounds (T : Tab) (s : Int) (hl : T.zs.length ≤ 16) : -1 ≤ awayOf T s ∧ awayOf T s ≤ 15 := by
  unfold awayOf
  split
  · rename_i h
    simp only [Bool.and_eq_true, decide_eq_true_eq] at h
    obtain ⟨⟨hv, _⟩, _⟩ := h
    obtain ⟨⟨l1, _⟩, _⟩ := valid_facts hv
    have h1 := Int.emod_nonneg (s - homeI T (nth T.zs s.toNat)) (b := (T.zs.length : Int)) (by omega)
    have h2 := Int.emod_lt_of_pos (s - homeI T (nth T.zs s.toNat)) (b := (T.zs.length : Int)) (by omega)
    omega
  · omega
theorem mostTo_bounds (T : Tab) (hl : T.zs.length ≤ 16) (j : Nat) : 0 ≤ mostTo T j ∧ mostTo T j ≤ 15 := by
  induction j with
  | zero => simp [mostTo]
  | succ j ih =>
    have := awayOf_bounds T j hl
    simp only [mostTo]; omega
theorem totTo_bounds (T : Tab) (hl : T.zs.length ≤ 16) (j : Nat) : 0 ≤ totTo T j ∧ totTo T j ≤ 15 * j := by
  induction j with
  | zero => simp [totTo]
  | succ j ih =>
    have := awayOf_bounds T j hl
    simp only [totTo]; omega

end Go.Proofs.YtkdkdmjhhgllgaaGreatDoor

namespace Go.Proofs.YtkdkdmjhhgllgaaGreatDoor

theorem near_ahead {T : Tab} {h d : Nat} {key : Int} (hn : nearAt T h d = true) : aheadB T (stepS T h d) key d = false := by
  unfold nearAt at hn
  have := of_decide_eq_true hn
  unfold aheadB
  rw [beq_eq_false_iff_ne.2 (by omega)]
  simp; omega
theorem near_free {T : Tab} {h d : Nat} (hf : nth T.zs (stepS T h d) < 0) : nearAt T h d = true := by
  unfold nearAt
  rw [free_away hf]
  exact decide_eq_true (by omega)
theorem step_back {T : Tab} {h g d : Nat} (hh : h < T.zs.length) (hg : g < T.zs.length) (hd : d < T.zs.length) (e : stepS T h d = stepS T g d) : h = g := by
  rw [step_eq hh (by omega), step_eq hg (by omega)] at e
  split at e <;> split at e <;> omega
theorem ahead_near {T : Tab} (hv : validB T = true) {h d : Nat} {key : Int} (hh : h < T.zs.length) (hd : d < T.zs.length) (hm : ∀ i, i < T.zs.length → nth T.zs i < key ∨ homeN T (nth T.zs i) ≠ h)
    (ha : aheadB T (stepS T h d) key d = false) : nearAt T h d = true := by
  have hs := stepS_lt (T := T) (by omega) h d
  unfold nearAt
  refine decide_eq_true ?_
  rw [ahead_if] at ha
  split at ha
  · rename_i e
    by_cases h0 : nth T.zs (stepS T h d) < 0
    · rw [free_away h0] at e; omega
    · obtain ⟨e1, e2, e3⟩ := away_self hv hs (by omega)
      have hk := of_decide_eq_false ha
      have ew : awN T T.zs (stepS T h d) = d := by omega
      rw [ew] at e3
      have := step_back (homeN_lt hv _) hh hd e3
      rcases hm _ hs with h1 | h1
      · omega
      · exact absurd this h1
  · have := of_decide_eq_false ha
    omega
theorem fmiss_end {T : Tab} (hf : fairB T = true) {h : Nat} (hh : h < T.zs.length) : fmissN T h = goN (nearAt T h) T.zs.length + 1 := by
  obtain ⟨_, hfm, _⟩ := fair_parts hf
  obtain ⟨d, hd, e⟩ := free_step hh hfm
  have hlt : goN (nearAt T h) T.zs.length < T.zs.length := by
    refine Nat.lt_of_not_le fun hn => ?_
    have := goN_free (p := nearAt T h) (n := T.zs.length) (j := d) (by omega)
    rw [near_free (by omega)] at this
    cases this
  unfold fmissN cntN
  omega
theorem fmiss_vis {T : Tab} (hf : fairB T = true) {key : Int} (hk : inB key 0 99 = true) (hh : homeN T key < T.zs.length) : fairVis T key ≤ fmissN T (homeN T key) := by
  have h1 := goN_mono (p := nearAt T (homeN T key)) (q := fun d => !aheadB T (stepS T (homeN T key) d) key d) (n := T.zs.length) fun d _ h => by simp [near_ahead h]
  rw [fmiss_end hf hh]
  simp only [fairVis, hf, hk, Bool.and_self, if_true]
  unfold passN
  omega
theorem fmiss_most {T : Tab} (hf : fairB T = true) (hv : validB T = true) {key : Int} (hk : inB key 0 99 = true) (hh : homeN T key < T.zs.length) (hm : ∀ i, i < T.zs.length → nth T.zs i < key ∨ homeN T (nth T.zs i) ≠ homeN T key) : fairVis T key = fmissN T (homeN T key) := by
  have h1 := goN_mono (p := nearAt T (homeN T key)) (q := fun d => !aheadB T (stepS T (homeN T key) d) key d) (n := T.zs.length) fun d _ h => by simp [near_ahead h]
  have h2 := goN_mono (p := fun d => !aheadB T (stepS T (homeN T key) d) key d) (q := nearAt T (homeN T key)) (n := T.zs.length) fun d hd h => ahead_near hv hh hd hm (by simpa using h)
  rw [fmiss_end hf hh]
  simp only [fairVis, hf, hk, Bool.and_self, if_true]
  unfold passN
  omega
theorem fmiss_le {T : Tab} (h : Nat) : fmissN T h ≤ missN T h := by
  have := goN_mono (p := freeAt T h) (q := nearAt T h) (n := T.zs.length) fun d _ hd => near_free (by
    have : nth T.zs (stepS T h d) = -1 := by simpa [freeAt] using hd
    omega)
  unfold fmissN missN cntN
  omega
theorem most_ge {T : Tab} {j i : Nat} (h : i < j) : awayOf T i ≤ mostTo T j := by
  induction j with
  | zero => omega
  | succ j ih =>
    simp only [mostTo]
    by_cases c : i = j
    · subst c; omega
    · have := ih (by omega); omega
theorem fmiss_away {T : Tab} (hf : fairB T = true) (l2 : T.zs.length ≤ 16) {h : Nat} (hh : h < T.zs.length) : (fmissN T h : Int) ≤ mostTo T T.zs.length + 2 := by
  have h0 := (mostTo_bounds T l2 T.zs.length).1
  rw [fmiss_end hf hh]
  by_cases c : goN (nearAt T h) T.zs.length = 0
  · rw [c]; omega
  · have h1 := goN_free (p := nearAt T h) (n := T.zs.length) (j := goN (nearAt T h) T.zs.length - 1) (by omega)
    have h2 := most_ge (T := T) (stepS_lt (T := T) (by omega) h (goN (nearAt T h) T.zs.length - 1))
    have := of_decide_eq_false (show decide (awayOf T (stepS T h (goN (nearAt T h) T.zs.length - 1) : Nat) < ((goN (nearAt T h) T.zs.length - 1 : Nat) : Int)) = false from h1)
    omega

/-- No key with this home in the first j slots is as great. -/
def topB (T : Tab) (k h : Int) (j : Nat) : Bool := (List.range j).all fun i => decide (nth T.zs i < k) || !(homeOf T (nth T.zs i) == h)
theorem topB_succ (T : Tab) (k h : Int) (j : Nat) : topB T k h (j + 1) = (topB T k h j && (decide (nth T.zs j < k) || !(homeOf T (nth T.zs j) == h))) := by
  simp [topB, List.range_succ]
theorem topB_zero (T : Tab) (k h : Int) : topB T k h 0 = true := rfl
structure FairMissSays (T : Tab) (h : Nat) : Prop where
  low : ∀ k : Nat, k ≤ 99 → homeOf T (k : Int) = (h : Int) → fairVis T (k : Int) ≤ fmissN T h
  top : ∀ k : Nat, k ≤ 99 → homeOf T (k : Int) = (h : Int) → topB T k h T.zs.length = true → fairVis T (k : Int) = fmissN T h
  miss : missI T h = missN T h ∧ fmissN T h ≤ missN T h
  most : (fmissN T h : Int) ≤ mostAway T + 2 ∧ 0 ≤ mostAway T ∧ mostAway T ≤ 15
  size : fmissN T h ≤ 16 ∧ T.zs.length ≤ 16
theorem fairmiss_says {T : Tab} (hf : fairB T = true) {h : Nat} (hh : h < T.zs.length) : FairMissSays T h := by
  obtain ⟨hp, _, _⟩ := fair_parts hf
  obtain ⟨_, hv, _⟩ := plain_parts hp
  obtain ⟨⟨l1, l2⟩, _⟩ := valid_facts hv
  have hhome : ∀ k : Nat, k ≤ 99 → homeOf T (k : Int) = (h : Int) → homeN T (k : Int) = h := fun k hk e => by
    have hkb : inB (k : Int) 0 99 = true := inB_true (by omega)
    have he := homeN_eq hv (k : Int)
    rw [← homeOf_yes hv hkb, ← he] at e
    omega
  have hb : inB (h : Int) 0 (T.zs.length - 1) = true := inB_true (by omega)
  have hmb := mostTo_bounds T l2 T.zs.length
  have hma : mostAway T = mostTo T T.zs.length := by simp [mostAway, hv]
  have hcb := (cntN_bounds (p := nearAt T h) l1).2
  refine ⟨fun k hk e => ?_, fun k hk e ht => ?_, ⟨by simp [missI, hv, hb], fmiss_le h⟩, ⟨by rw [hma]; exact fmiss_away hf l2 hh, by omega, by omega⟩, by unfold fmissN; omega, l2⟩
  · have h1 := hhome k hk e
    have := fmiss_vis hf (key := (k : Int)) (inB_true (by omega)) (by rw [h1]; exact hh)
    rw [h1] at this
    exact this
  · have h1 := hhome k hk e
    have := fmiss_most hf hv (key := (k : Int)) (inB_true (by omega)) (by rw [h1]; exact hh) fun i hi => by
      have ht2 := (List.all_eq_true.1 ht) i (List.mem_range.2 hi)
      by_cases c : nth T.zs i < (k : Int)
      · exact .inl c
      · right
        have hs := valid_slot hv hi
        have hib : inB (nth T.zs i) 0 99 = true := inB_true (by omega)
        have he := homeN_eq hv (nth T.zs i)
        rw [homeOf_yes hv hib] at he
        intro e2
        rw [h1] at e2
        rw [e2] at he
        rw [← he] at ht2
        simp [c] at ht2
    rw [h1] at this
    exact this

end Go.Proofs.YtkdkdmjhhgllgaaGreatDoor

namespace Go.Proofs.YtkdkdmjhhgllgaaGreatDoor

theorem sumU_ge {f : Nat → Nat} {L : Nat} : ∀ n, L ≤ n → (∀ d, d < L → f d = 1) → L ≤ sumU f n := by
  have h1 : ∀ L, (∀ d, d < L → f d = 1) → sumU f L = L := fun L => by
    induction L with
    | zero => intro _; rfl
    | succ L ih => intro h; rw [sumU_succ, ih fun d hd => h d (by omega), h L (by omega)]
  intro n hn h
  obtain ⟨e, rfl⟩ : ∃ e, n = L + e := ⟨n - L, by omega⟩
  rw [sumU_add, h1 L h]
  omega
theorem sumU_few {f : Nat → Nat} {m : Nat} : ∀ n, (∀ d, d < n → f d ≤ 1) → (∀ d, d < n → m ≤ d → f d = 0) → sumU f n ≤ m := by
  intro n
  induction n with
  | zero => intro _ _; simp [sumU]
  | succ n ih =>
    intro h1 h2
    rw [sumU_succ]
    have i1 := ih (fun d hd => h1 d (by omega)) (fun d hd => h2 d (by omega))
    by_cases c : m ≤ n
    · rw [h2 n (by omega) c]; omega
    · have h3 : ∀ k, k ≤ n → sumU f k ≤ k := fun k => by
        induction k with
        | zero => intro _; simp [sumU]
        | succ k ihk => intro hk; rw [sumU_succ]; have := ihk (by omega); have := h1 k (by omega); omega
      have := h3 n (Nat.le_refl _)
      have := h1 n (by omega)
      omega
theorem sumU_countP (q : Int → Bool) (zs : List Int) : sumU (fun i => if q (nth zs i) then 1 else 0) zs.length = zs.countP q := by
  have h : ∀ k, k ≤ zs.length → sumU (fun i => if q (nth zs i) then 1 else 0) k = cnt q zs k := fun k => by
    induction k with
    | zero => intro _; simp [sumU, cnt_zero]
    | succ k ih => intro hk; rw [sumU_succ, ih (by omega), cnt_succ (x := nth zs k) (by omega) rfl]
  rw [h _ (Nat.le_refl _)]
  unfold cnt
  rw [List.take_length]
/-- Keys are counted in whatever order they lie. -/
theorem countP_keys {q : Int → Bool} (hq : ∀ x, q x = true → inB x 0 99 = true) {zs : List Int} (h : Good zs zs.length) : zs.countP q = (sortU zs).countP q := by
  have hp : (zs.filter fun x => inB x 0 99).Perm (sortU zs) := by
    rw [← sort_keys h]
    exact (List.mergeSort_perm _ _).symm
  rw [← hp.countP_eq q, List.countP_filter]
  congr 1
  funext x
  cases hx : q x
  · rfl
  · rw [hq x hx]; rfl

/-- What is asked of a row of slots: all keys are found, there are no tombs, and a slot is free. -/
structure PlainZ (T : Tab) (zs : List Int) : Prop where
  val : validB (tab T zs) = true
  len : zs.length = T.zs.length
  one : 1 ≤ T.zs.length
  key : ∀ i, i < T.zs.length → nth zs i ≠ -1 → 0 ≤ nth zs i ∧ nth zs i ≤ 99
  at_ : ∀ i, i < T.zs.length → 0 ≤ nth zs i → awN T zs i < T.zs.length ∧ stepS T (homeN T (nth zs i)) (awN T zs i) = i
  way : ∀ i, i < T.zs.length → 0 ≤ nth zs i → ∀ m, m ≤ awN T zs i → nth zs (stepS T (homeN T (nth zs i)) m) ≠ -1
  home : ∀ x, homeN T x < T.zs.length
  good : Good zs T.zs.length
theorem plainZ {T : Tab} {zs : List Int} (hp : plainB (tab T zs) = true) (hl : zs.length = T.zs.length) : PlainZ T zs := by
  obtain ⟨hs, hv, ht⟩ := plain_parts hp
  obtain ⟨⟨l1, l2⟩, _, _, hg⟩ := valid_facts hv
  have e0 : (tab T zs).zs.length = T.zs.length := hl
  have hst : ∀ h m, stepS (tab T zs) h m = stepS T h m := fun h m => by simp [stepS, tab, hl]
  have hat : ∀ i, i < T.zs.length → 0 ≤ nth zs i → awN T zs i < T.zs.length ∧ stepS T (homeN T (nth zs i)) (awN T zs i) = i := fun i hi h0 => by
    have hh : homeN T (nth zs i) < T.zs.length := by
      have := homeN_lt hv (nth zs i)
      rw [tab_home hl, e0] at this; exact this
    refine ⟨dst_lt hh hi, ?_⟩
    have hd := dst_lt hh hi
    rw [fwd_step hh (by unfold awN; omega)]
    exact fwd_dst hh hi
  refine ⟨hv, hl, by omega, fun i hi hne => plain_key hp (i := i) (by rw [e0]; exact hi) hne, hat, fun i hi h0 m hm => ?_, fun x => ?_, by rw [← hl]; exact hg⟩
  · obtain ⟨a1, a2⟩ := hat i hi h0
    by_cases c : m = awN T zs i
    · rw [c, a2]; omega
    · have hf := sound_find hs (i := i) (by rw [e0]; exact hi) h0
      have hfi : 0 ≤ findI (tab T zs) (nth zs i) := by have : findI (tab T zs) (nth zs i) = i := hf; omega
      have := (found_iff hv (key := nth zs i) (j := awN T zs i) (by rw [e0]; exact a1) (by rw [tab_home hl, hst, a2]; rfl) h0).1 hfi m (by omega)
      rw [tab_home hl, hst] at this
      exact this
  · have := homeN_lt hv x
    rw [tab_home hl, e0] at this; exact this

/-- A key whose home lies less than L slots behind slot s. -/
def winQ (T : Tab) (s L : Nat) (x : Int) : Bool := inB x 0 99 && decide (dst T.zs.length (homeN T x) s < L)
theorem step_step (T : Tab) (h j k : Nat) : stepS T (stepS T h j) k = stepS T h (j + k) := by
  unfold stepS
  rw [Nat.mod_add_mod, Nat.add_assoc]
theorem dst_step {T : Tab} {h m : Nat} (hh : h < T.zs.length) (hm : m < T.zs.length) : dst T.zs.length h (stepS T h m) = m := by
  rw [fwd_step hh (by omega)]
  exact dst_fwd hh hm
theorem step_dst {T : Tab} {h s : Nat} (hh : h < T.zs.length) (hs : s < T.zs.length) : stepS T h (dst T.zs.length h s) = s := by
  rw [fwd_step hh (Nat.le_of_lt (dst_lt hh hs))]
  exact fwd_dst hh hs

/-- The last free slot ahead of one that is taken. -/
theorem free_ahead {T : Tab} {zs : List Int} {f : Nat} (hf : nth zs (stepS T f 0) = -1) : ∀ t, nth zs (stepS T f t) ≠ -1 → ∃ u, u < t ∧ nth zs (stepS T f u) = -1 ∧ ∀ v, u < v → v ≤ t → nth zs (stepS T f v) ≠ -1 := by
  intro t
  induction t with
  | zero => intro h; exact absurd hf h
  | succ t ih =>
    intro h
    by_cases c : nth zs (stepS T f t) = -1
    · exact ⟨t, by omega, c, fun v h1 h2 => by rw [show v = t + 1 by omega]; exact h⟩
    · obtain ⟨u, u1, u2, u3⟩ := ih c
      exact ⟨u, by omega, u2, fun v h1 h2 => by
        by_cases e : v = t + 1
        · rw [e]; exact h
        · exact u3 v h1 (by omega)⟩

theorem occ_yes {T : Tab} {zs : List Int} (P : PlainZ T zs) {f : Nat} (hf : f < T.zs.length) (hff : nth zs f = -1) {s : Nat} (hs : s < T.zs.length) (h : nth zs s ≠ -1) :
    ∃ L, 1 ≤ L ∧ L ≤ T.zs.length ∧ L ≤ zs.countP (winQ T s L) := by
  have hn := P.one
  have f0 : stepS T f 0 = f := Nat.mod_eq_of_lt hf
  have es := step_dst hf hs
  have ht := dst_lt hf hs
  obtain ⟨u, u1, u2, u3⟩ := free_ahead (T := T) (zs := zs) (f := f) (by rw [f0]; exact hff) (dst T.zs.length f s) (by rw [es]; exact h)
  generalize dst T.zs.length f s = t at es ht u1 u3
  refine ⟨t - u, by omega, by omega, ?_⟩
  rw [← sumU_countP, P.len, ← sum_turn T (fun i => if winQ T s (t - u) (nth zs i) then 1 else 0) (h := stepS T f (u + 1)) (stepS_lt hn _ _)]
  refine sumU_ge _ (by omega) fun d hd => ?_
  have hsl := stepS_lt (T := T) hn f (u + 1 + d)
  have hne := u3 (u + 1 + d) (by omega) (by omega)
  rw [step_step]
  obtain ⟨k0, k9⟩ := P.key _ hsl hne
  obtain ⟨a1, a2⟩ := P.at_ _ hsl k0
  have hw := P.way _ hsl k0
  have hh := P.home (nth zs (stepS T f (u + 1 + d)))
  generalize awN T zs (stepS T f (u + 1 + d)) = a at a1 a2 hw
  generalize hx : nth zs (stepS T f (u + 1 + d)) = x at k0 k9 a2 hw hh
  have had : a ≤ d := by
    refine Nat.le_of_not_lt fun hlt => ?_
    have h1 := hw (a - (d + 1)) (by omega)
    have h2 : stepS T (stepS T (homeN T x) (a - (d + 1))) (d + 1) = stepS T (stepS T f u) (d + 1) := by
      rw [step_step, step_step, show a - (d + 1) + (d + 1) = a by omega, a2]
      congr 1; omega
    have h3 := step_back (stepS_lt hn _ _) (stepS_lt hn _ _) (by omega) h2
    rw [h3] at h1
    exact h1 u2
  have e1 : s = stepS T (homeN T x) (a + (t - u - 1 - d)) := by
    rw [← step_step, a2, step_step, ← es]
    congr 1; omega
  have e2 : dst T.zs.length (homeN T x) s = a + (t - u - 1 - d) := by rw [e1]; exact dst_step hh (by omega)
  rw [if_pos]
  unfold winQ
  rw [inB_true ⟨k0, k9⟩, e2]
  simp; omega
theorem occ_no {T : Tab} {zs : List Int} (P : PlainZ T zs) {s : Nat} (hs : s < T.zs.length) (h : nth zs s = -1) {L : Nat} (h1 : 1 ≤ L) (h2 : L ≤ T.zs.length) : zs.countP (winQ T s L) < L := by
  have hn := P.one
  have hw0 : stepS T (stepS T s (T.zs.length + 1 - L)) (L - 1) = s := by
    rw [step_step, show T.zs.length + 1 - L + (L - 1) = T.zs.length by omega]
    unfold stepS; rw [Nat.add_mod_right, Nat.mod_eq_of_lt hs]
  have hwl := stepS_lt (T := T) hn s (T.zs.length + 1 - L)
  generalize stepS T s (T.zs.length + 1 - L) = w0 at hw0 hwl
  rw [← sumU_countP, P.len, ← sum_turn T (fun i => if winQ T s L (nth zs i) then 1 else 0) (h := w0) hwl]
  have hle : sumU (fun d => if winQ T s L (nth zs (stepS T w0 d)) then 1 else 0) T.zs.length ≤ L - 1 := by
    refine sumU_few _ (fun d _ => by split <;> omega) fun d hd hLd => ?_
    rw [if_neg]
    intro hq
    unfold winQ at hq
    simp only [Bool.and_eq_true, decide_eq_true_eq] at hq
    obtain ⟨hk, he⟩ := hq
    obtain ⟨k0, k9⟩ := inB_iff.1 hk
    have hsl := stepS_lt (T := T) hn w0 d
    obtain ⟨a1, a2⟩ := P.at_ _ hsl k0
    have hw := P.way _ hsl k0
    have hh := P.home (nth zs (stepS T w0 d))
    have es := step_dst hh hs
    generalize awN T zs (stepS T w0 d) = a at a1 a2 hw
    generalize nth zs (stepS T w0 d) = x at k0 k9 a2 hw hh he es
    generalize dst T.zs.length (homeN T x) s = e at he es
    have hae : a < e := by
      refine Nat.lt_of_not_le fun hle => ?_
      have := hw e hle
      rw [es] at this
      exact this h
    have h3 : stepS T w0 (d + (e - a)) = stepS T w0 (L - 1) := by
      rw [hw0, ← step_step, ← a2, step_step, show a + (e - a) = e by omega, es]
    by_cases c : d + (e - a) < T.zs.length
    · have := step_inj hwl c (by omega) h3; omega
    · have h4 : stepS T w0 (d + (e - a) - T.zs.length) = stepS T w0 (d + (e - a)) := by
        unfold stepS
        rw [show w0 + (d + (e - a)) = w0 + (d + (e - a) - T.zs.length) + T.zs.length by omega, Nat.add_mod_right]
      have := step_inj hwl (by omega) (by omega) (h4.trans h3); omega
  omega
/-- The same keys take the same slots. -/
theorem occ_same {T : Tab} {xs ys : List Int} (P : PlainZ T xs) (Q : PlainZ T ys) (hx : -1 ∈ xs) (hy : -1 ∈ ys) (hk : sortU xs = sortU ys) {s : Nat} (hs : s < T.zs.length) : nth xs s = -1 ↔ nth ys s = -1 := by
  have hq : ∀ L x, winQ T s L x = true → inB x 0 99 = true := fun L x h => by
    unfold winQ at h
    simp only [Bool.and_eq_true] at h
    exact h.1
  have hc : ∀ L, xs.countP (winQ T s L) = ys.countP (winQ T s L) := fun L => by
    have h1 := countP_keys (zs := xs) (hq L) (by rw [P.len]; exact P.good)
    have h2 := countP_keys (zs := ys) (hq L) (by rw [Q.len]; exact Q.good)
    rw [h1, h2, hk]
  obtain ⟨f, hf, ef⟩ := mem_nth hx
  obtain ⟨g, hg, eg⟩ := mem_nth hy
  rw [P.len] at hf
  rw [Q.len] at hg
  constructor
  · intro h
    by_cases c : nth ys s = -1
    · exact c
    · obtain ⟨L, l1, l2, l3⟩ := occ_yes Q hg eg hs c
      have := occ_no P hs h l1 l2
      have := hc L
      omega
  · intro h
    by_cases c : nth xs s = -1
    · exact c
    · obtain ⟨L, l1, l2, l3⟩ := occ_yes P hf ef hs c
      have := occ_no Q hs h l1 l2
      have := hc L
      omega

/-- One fair table of some keys. -/
theorem uniq_half {T : Tab} {xs ys : List Int} (fx : fairB (tab T xs) = true) (P : PlainZ T xs) (Q : PlainZ T ys) {f : Nat} (hf : f < T.zs.length) (fy0 : nth ys f = -1) (hk : ∀ z, 0 ≤ z → z ≤ 99 → (z ∈ xs ↔ z ∈ ys))
    {p : Nat} (hp : p < T.zs.length) (low : ∀ q, q < p → nth xs (stepS T f q) = nth ys (stepS T f q)) (hx : 0 ≤ nth xs (stepS T f p)) (hy : 0 ≤ nth ys (stepS T f p)) (hne : nth xs (stepS T f p) ≠ nth ys (stepS T f p)) :
    (awN T ys (stepS T f p) < awN T xs (stepS T f p)) ∨ (awN T xs (stepS T f p) = awN T ys (stepS T f p) ∧ nth xs (stepS T f p) < nth ys (stepS T f p)) := by
  have hn := P.one
  have hsl := stepS_lt (T := T) hn f p
  have hy9 := (Q.key _ hsl (by omega)).2
  obtain ⟨a1, a2⟩ := Q.at_ _ hsl hy
  have hw := Q.way _ hsl hy
  have hh := Q.home (nth ys (stepS T f p))
  -- the key of the other row lies behind
  have hin : nth ys (stepS T f p) ∈ xs := (hk _ hy hy9).2 (nth_mem (by rw [Q.len]; exact hsl))
  obtain ⟨j, hj, ej⟩ := mem_nth hin
  rw [P.len] at hj
  have ejs := step_dst hf hj
  have hq := dst_lt hf hj
  generalize dst T.zs.length f j = q at ejs hq
  have hqp : p < q := by
    rcases Nat.lt_trichotomy q p with c | c | c
    · exfalso
      have h1 := low q c
      rw [ejs, ej] at h1
      have h2 := Q.good.inj hj hsl (by rw [← ejs]; rw [← ejs] at h1; exact h1.symm) (by rw [← h1]; exact hy)
      rw [← ejs] at h2
      have := step_inj hf (by omega) hp h2
      omega
    · exfalso
      rw [← c, ejs] at hne
      rw [← c, ejs] at ej
      exact hne ej
    · exact c
  have b := P.at_ j hj (by rw [ej]; exact hy)
  have hwx := P.way j hj (by rw [ej]; exact hy)
  rw [ej] at b hwx
  obtain ⟨b1, b2⟩ := b
  generalize hd : awN T ys (stepS T f p) = d at a1 a2 hw
  have hdp : d < p := by
    refine Nat.lt_of_not_le fun hle => ?_
    have h1 := hw (d - p) (by omega)
    have h2 : stepS T (stepS T (homeN T (nth ys (stepS T f p))) (d - p)) p = stepS T f p := by
      rw [step_step, show d - p + p = d by omega, a2]
    have h3 := step_back (stepS_lt hn _ _) hf hp h2
    rw [h3] at h1
    exact h1 fy0
  have hT : awN T xs j = d + (q - p) := by
    refine step_inj hh b1 (by omega) ?_
    rw [b2, ← step_step, a2, step_step, show p + (q - p) = q by omega, ejs]
  obtain ⟨_, _, hto⟩ := fair_parts fx
  have e0 : (tab T xs).zs.length = T.zs.length := P.len
  have hsb := fairTo_iff.1 hto j (by rw [e0]; exact hj)
  have hnj : ¬ nth (tab T xs).zs j < 0 := by show ¬ nth xs j < 0; rw [ej]; omega
  have haw : awN (tab T xs) (tab T xs).zs j = awN T xs j := by
    show dst (tab T xs).zs.length (homeN (tab T xs) (nth xs j)) j = _
    rw [e0, tab_home P.len]; rfl
  simp only [slotB, hnj, decide_false, Bool.false_or] at hsb
  rw [haw, hT] at hsb
  have hah := wayB_iff.1 hsb d (by omega)
  have ezj : nth (tab T xs).zs j = nth ys (stepS T f p) := ej
  rw [ezj, tab_home P.len] at hah
  have est : stepS (tab T xs) (homeN T (nth ys (stepS T f p))) d = stepS T f p := by rw [show ∀ h m, stepS (tab T xs) h m = stepS T h m from fun h m => by simp [stepS, tab, P.len]]; exact a2
  rw [est] at hah
  unfold aheadB at hah
  rw [awN_of P.val P.len hsl hx] at hah
  simp only [Bool.or_eq_true, Bool.and_eq_true, decide_eq_true_eq, beq_iff_eq] at hah
  have ezp : nth (tab T xs).zs (stepS T f p) = nth xs (stepS T f p) := rfl
  rw [ezp] at hah
  omega
theorem fair_uniq {T : Tab} {xs ys : List Int} (fx : fairB (tab T xs) = true) (fy : fairB (tab T ys) = true) (lx : xs.length = T.zs.length) (ly : ys.length = T.zs.length) (hk : sortU xs = sortU ys) : xs = ys := by
  obtain ⟨px, mx, _⟩ := fair_parts fx
  obtain ⟨py, my, _⟩ := fair_parts fy
  have P := plainZ px lx
  have Q := plainZ py ly
  have hn := P.one
  have hmem : ∀ z, 0 ≤ z → z ≤ 99 → (z ∈ xs ↔ z ∈ ys) := fun z h0 h9 => by
    have h1 : z ∈ sortU xs ↔ z ∈ sortU ys := by rw [hk]
    rw [sortU_mem, sortU_mem] at h1
    constructor
    · intro h; exact (h1.1 ⟨⟨h0, h9⟩, h⟩).2
    · intro h; exact (h1.2 ⟨⟨h0, h9⟩, h⟩).2
  obtain ⟨f, hf, ef⟩ := mem_nth (show -1 ∈ xs from mx)
  rw [lx] at hf
  have ef2 := (occ_same P Q mx my hk hf).1 ef
  have all : ∀ p, p < T.zs.length → nth xs (stepS T f p) = nth ys (stepS T f p) := fun p => by
    induction p using Nat.strongRecOn with
    | _ p ih =>
      intro hp
      have low : ∀ q, q < p → nth xs (stepS T f q) = nth ys (stepS T f q) := fun q hq => ih q hq (by omega)
      have hsl := stepS_lt (T := T) hn f p
      have ho := occ_same P Q mx my hk hsl
      by_cases c : nth xs (stepS T f p) = -1
      · rw [c, ho.1 c]
      · have c2 : nth ys (stepS T f p) ≠ -1 := fun e => c (ho.2 e)
        have kx := (P.key _ hsl c).1
        have ky := (Q.key _ hsl c2).1
        by_cases e : nth xs (stepS T f p) = nth ys (stepS T f p)
        · exact e
        · have h1 := uniq_half fx P Q hf ef2 hmem hp low kx ky e
          have h2 := uniq_half fy Q P hf ef (fun z h0 h9 => (hmem z h0 h9).symm) hp (fun q hq => (low q hq).symm) ky kx (Ne.symm e)
          omega
  refine nth_ext (by rw [lx, ly]) fun i hi => ?_
  rw [lx] at hi
  have := all _ (dst_lt hf hi)
  rwa [step_dst hf hi] at this

end Go.Proofs.YtkdkdmjhhgllgaaGreatDoor

namespace Go.Proofs.YtkdkdmjhhgllgaaGreatDoor

theorem nodup_length {l m : List Int} (hn : l.Nodup) : (∀ x, x ∈ l → x ∈ m) → l.length ≤ m.length := by
  induction l generalizing m with
  | nil => intro _; exact Nat.zero_le _
  | cons x l ih =>
    intro hs
    obtain ⟨n1, n2⟩ := List.nodup_cons.1 hn
    have hx := hs x (List.mem_cons_self ..)
    have := ih (m := m.erase x) n2 fun y hy => (List.mem_erase_of_ne (fun (e : y = x) => n1 (by rw [e] at hy; exact hy))).2 (hs y (List.mem_cons_of_mem _ hy))
    rw [List.length_erase_of_mem hx] at this
    have h0 : 0 < m.length := List.length_pos_of_mem hx
    simp only [List.length_cons]
    omega
theorem sortU_nodup (zs : List Int) : (sortU zs).Nodup := (sortU_pairwise zs).imp fun h e => by omega

/-- Which keys lie there when one has been put. -/
theorem fput_keys {T : Tab} {key : Int} (hfa : fairB T = true) (F : FputSays T key) {z : Int} (h0 : 0 ≤ z) : z ∈ fputZ T key ↔ z = key ∨ z ∈ T.zs := by
  obtain ⟨⟨l1, _⟩, _⟩ := valid_facts F.val
  have Sh := shifted hfa F
  have hh := homeN_lt F.val key
  have hlen := fputZ_len T key
  have hg := give_le T key
  have hE := F.elt
  have hin : ∀ m, nth (fputZ T key) (stepS T (homeN T key) m) ∈ fputZ T key := fun m => nth_mem (by rw [hlen]; exact stepS_lt l1 _ _)
  constructor
  · intro h
    obtain ⟨i, hi, e⟩ := mem_nth h
    rw [hlen] at hi
    rw [← e]
    exact fput_from l1 i hi
  · rintro (rfl | h)
    · have := hin (giveN T z)
      rw [Sh.at_] at this
      exact this
    · obtain ⟨i, hi, e⟩ := mem_nth h
      obtain ⟨s1, s2⟩ := step_away hh hi
      generalize (i + T.zs.length - homeN T key) % T.zs.length = m at s1 s2
      rw [← s1] at e
      by_cases c1 : m < giveN T key
      · rw [← e, ← Sh.low m c1]; exact hin _
      · by_cases c2 : m < endF T key
        · have := Sh.mid (m + 1) (by omega) (by omega)
          rw [Nat.add_sub_cancel] at this
          rw [← e, ← this]; exact hin _
        · by_cases c3 : m = endF T key
          · rw [c3, F.eat] at e; omega
          · rw [← e, ← Sh.high m (by omega) s2]; exact hin _

/-- A fair row with some keys. -/
structure FairZ (T : Tab) (zs : List Int) (S : Int → Prop) : Prop where
  fair : fairB (tab T zs) = true
  len : zs.length = T.zs.length
  mem : ∀ z, 0 ≤ z → z ≤ 99 → (z ∈ zs ↔ S z)
theorem FairZ.plain {T : Tab} {zs : List Int} {S : Int → Prop} (h : FairZ T zs S) : PlainZ T zs := plainZ (fair_parts h.fair).1 h.len
theorem FairZ.val {T : Tab} {zs : List Int} {S : Int → Prop} (h : FairZ T zs S) : validB (tab T zs) = true := h.plain.val
theorem FairZ.imp {T : Tab} {zs : List Int} {S S' : Int → Prop} (h : FairZ T zs S) (hs : ∀ z, 0 ≤ z → z ≤ 99 → (S z ↔ S' z)) : FairZ T zs S' := ⟨h.fair, h.len, fun z h0 h9 => (h.mem z h0 h9).trans (hs z h0 h9)⟩
/-- Two fair rows with the same keys are the same. -/
theorem FairZ.uniq {T : Tab} {xs ys : List Int} {S S' : Int → Prop} (h : FairZ T xs S) (k : FairZ T ys S') (hs : ∀ z, 0 ≤ z → z ≤ 99 → (S z ↔ S' z)) : xs = ys :=
  fair_uniq h.fair k.fair h.len k.len (sortU_same fun z h0 h9 => ((h.mem z h0 h9).trans (hs z h0 h9)).trans (k.mem z h0 h9).symm)
theorem FairZ.found {T : Tab} {zs : List Int} {S : Int → Prop} (h : FairZ T zs S) {x : Int} (h0 : 0 ≤ x) (h9 : x ≤ 99) : 0 ≤ findI (tab T zs) x ↔ S x := by
  obtain ⟨hp, _, _⟩ := fair_parts h.fair
  obtain ⟨hs, hv, _⟩ := plain_parts hp
  rw [← h.mem x h0 h9]
  constructor
  · intro hf
    obtain ⟨e1, e2⟩ := find_yes hf
    obtain ⟨⟨l1, _⟩, _⟩ := valid_facts hv
    have hlt := lastOf_lt (T := tab T zs) l1 x
    rw [← e2]
    exact nth_mem hlt
  · intro hm
    obtain ⟨i, hi, e⟩ := mem_nth hm
    have := sound_find hs (i := i) hi (by show 0 ≤ nth zs i; omega)
    have ez : nth (tab T zs).zs i = x := e
    rw [ez] at this
    omega
/-- How many slots are free. -/
theorem FairZ.count {T : Tab} {zs : List Int} {S : Int → Prop} (h : FairZ T zs S) : (sortU zs).length + cnt freeP zs zs.length = T.zs.length ∧ 1 ≤ cnt freeP zs zs.length := by
  obtain ⟨hp, hm, _⟩ := fair_parts h.fair
  obtain ⟨hs, hv, ht⟩ := plain_parts hp
  obtain ⟨_, _, _, hg'⟩ := valid_facts hv
  have hg : Good zs zs.length := hg'
  have ha := cnt_all zs
  have hz : cnt tombP zs zs.length = 0 := cnt_none fun i hi => by
    have : nth zs i ≠ -2 := ht i hi
    simp [tombP, this]
  have hk : (sortU zs).length = cnt keyP zs zs.length := by
    have hp2 : (zs.filter fun x => inB x 0 99).Perm (sortU zs) := by
      rw [← sort_keys hg]
      exact (List.mergeSort_perm _ _).symm
    rw [← hp2.length_eq]
    unfold cnt
    rw [List.take_length, List.countP_eq_length_filter]
    congr 1
    refine List.filter_congr fun x hx => ?_
    obtain ⟨i, hi, e⟩ := mem_nth hx
    have h1 := valid_slot hv hi
    have h2 := ht i hi
    have e1 : nth (tab T zs).zs i = x := e
    rw [e1] at h1 h2
    by_cases c : x = -1
    · subst c; decide
    · have : inB x 0 99 = true := inB_true (by omega)
      rw [this]
      simp [keyP, c, h2]
  refine ⟨by rw [hk]; have := h.len; omega, ?_⟩
  obtain ⟨i, hi, e⟩ := mem_nth (show -1 ∈ zs from hm)
  unfold cnt
  rw [List.take_length]
  refine List.countP_pos_iff.2 ⟨nth zs i, nth_mem hi, by rw [e]; decide⟩

theorem fairZ_start {T : Tab} (hf : fairB T = true) : FairZ T T.zs (fun z => z ∈ T.zs) := ⟨hf, rfl, fun _ _ _ => Iff.rfl⟩
theorem FairZ.put {T : Tab} {zs : List Int} {S : Int → Prop} (h : FairZ T zs S) {x : Int} (hok : fputOk (tab T zs) x = true) : FairZ T (fputZ (tab T zs) x) (fun z => S z ∨ z = x) := by
  have F := fput_says hok
  refine ⟨fput_fair hok, by rw [fputZ_len]; exact h.len, fun z h0 h9 => ?_⟩
  rw [fput_keys h.fair F h0]
  have := h.mem z h0 h9
  have e : (tab T zs).zs = zs := rfl
  rw [e, this]
  exact or_comm
theorem FairZ.step {T : Tab} {zs zs' : List Int} {S : Int → Prop} (h : FairZ T zs S) {x : Int} (h0 : 0 ≤ x) (h9 : x ≤ 99) (hs : stepF T zs x = some zs') : FairZ T zs' (fun z => S z ∨ z = x) := by
  unfold stepF at hs
  split at hs
  · rename_i hf
    cases hs
    have hx := (h.found h0 h9).1 hf
    exact h.imp fun z _ _ => ⟨.inl, fun hz => hz.elim id fun e => e ▸ hx⟩
  · split at hs
    · rename_i hok
      cases hs
      exact h.put hok
    · cases hs
theorem fall_fair {T : Tab} {ks : List Int} (hf : fairB T = true) (hk : keysB ks = true) : ∀ j, j ≤ ks.length → ∀ zs, fallTo T ks j = some zs → FairZ T zs (fun z => z ∈ T.zs ∨ z ∈ ks.take j) := by
  intro j
  induction j with
  | zero =>
    intro _ zs h
    cases h
    exact (fairZ_start hf).imp fun z _ _ => by simp
  | succ j ih =>
    intro hj zs h
    simp only [fallTo] at h
    cases h1 : fallTo T ks j with
    | none => rw [h1] at h; cases h
    | some z1 =>
      rw [h1] at h
      have i1 := ih (by omega) z1 h1
      obtain ⟨k0, k9⟩ := keysB_nth hk (j := j) (by omega)
      refine (i1.step k0 k9 h).imp fun z _ _ => ?_
      have e : nth ks j = ks[j] := by simp [nth, List.getElem?_eq_getElem (show j < ks.length by omega)]
      rw [List.take_succ_eq_append_getElem (show j < ks.length by omega), List.mem_append, List.mem_singleton, ← e, or_assoc]
/-- There is room for keys that all lie in a fair row. -/
theorem fall_room {T : Tab} {ks : List Int} (hf : fairB T = true) (hk : keysB ks = true) {xs : List Int} {S : Int → Prop} (X : FairZ T xs S) (h1 : ∀ z, 0 ≤ z → z ≤ 99 → z ∈ T.zs → S z) (h2 : ∀ z, z ∈ ks → S z) : fallOk T ks = true := by
  have all : ∀ j, j ≤ ks.length → (fallTo T ks j).isSome = true := fun j => by
    induction j with
    | zero => intro _; rfl
    | succ j ih =>
      intro hj
      have hi := ih (by omega)
      obtain ⟨zs, hz⟩ := Option.isSome_iff_exists.1 hi
      have Z := fall_fair hf hk j (by omega) zs hz
      obtain ⟨k0, k9⟩ := keysB_nth hk (j := j) (by omega)
      simp only [fallTo, hz, Option.bind_some, stepF]
      split
      · rfl
      · rename_i hnf
        have hin : ¬ (nth ks j ∈ T.zs ∨ nth ks j ∈ ks.take j) := fun h => hnf ((Z.found k0 k9).2 h)
        have hkj : nth ks j ∈ ks := nth_mem (by omega)
        have hok : fputOk (tab T zs) (nth ks j) = true := by
          have c1 := Z.count
          have c2 := X.count
          have hlen : (nth ks j :: sortU zs).length ≤ (sortU xs).length := nodup_length (List.nodup_cons.2 ⟨fun h => hin ((Z.mem _ k0 k9).1 (sortU_mem.1 h).2), sortU_nodup zs⟩) fun z hz' => by
            rcases List.mem_cons.1 hz' with rfl | hz'
            · exact sortU_mem.2 ⟨⟨k0, k9⟩, (X.mem _ k0 k9).2 (h2 _ hkj)⟩
            · obtain ⟨⟨z0, z9⟩, hm⟩ := sortU_mem.1 hz'
              refine sortU_mem.2 ⟨⟨z0, z9⟩, (X.mem _ z0 z9).2 ?_⟩
              rcases (Z.mem _ z0 z9).1 hm with c | c
              · exact h1 _ z0 z9 c
              · exact h2 _ (List.mem_of_mem_take c)
          simp only [List.length_cons] at hlen
          have hcf : countF (tab T zs) = cnt freeP zs zs.length := by unfold countF; rw [if_pos Z.val]; rfl
          simp only [fputOk, Bool.and_eq_true, decide_eq_true_eq]
          refine ⟨⟨⟨Z.fair, by rw [hcf]; omega⟩, inB_true ⟨k0, k9⟩⟩, by omega⟩
        rw [if_pos hok]
        rfl
  simp only [fallOk, Bool.and_eq_true]
  exact ⟨⟨hf, hk⟩, all _ (Nat.le_refl _)⟩
theorem fall_says {T : Tab} {ks : List Int} (h : fallOk T ks = true) : fairB T = true ∧ keysB ks = true ∧ ∃ zs, fallT T ks = tab T zs ∧ FairZ T zs (fun z => z ∈ T.zs ∨ z ∈ ks) := by
  have h' := h
  simp only [fallOk, Bool.and_eq_true] at h
  obtain ⟨⟨hf, hk⟩, hs⟩ := h
  obtain ⟨zs, hz⟩ := Option.isSome_iff_exists.1 hs
  refine ⟨hf, hk, zs, by unfold fallT; rw [if_pos h', hz]; rfl, ?_⟩
  have := fall_fair hf hk _ (Nat.le_refl _) zs hz
  rwa [List.take_length] at this

end Go.Proofs.YtkdkdmjhhgllgaaGreatDoor

namespace Go.Proofs.YtkdkdmjhhgllgaaGreatDoor

theorem perm_sum {g : Int → Nat} {l m : List Int} (h : l.Perm m) : (l.map g).sum = (m.map g).sum := by
  induction h with
  | nil => rfl
  | cons x _ ih => simp [ih]
  | swap x y l => simp; omega
  | trans _ _ a b => exact a.trans b
theorem sumU_map (g : Int → Nat) (zs : List Int) : sumU (fun i => g (nth zs i)) zs.length = (zs.map g).sum := by
  have h : ∀ k, k ≤ zs.length → sumU (fun i => g (nth zs i)) k = ((zs.take k).map g).sum := fun k => by
    induction k with
    | zero => intro _; simp [sumU]
    | succ k ih =>
      intro hk
      rw [sumU_succ, ih (by omega), List.take_succ_eq_append_getElem (by omega), List.map_append, List.sum_append]
      simp [nth, List.getElem?_eq_getElem (show k < zs.length by omega)]
  rw [h _ (Nat.le_refl _), List.take_length]
theorem map_keys {g : Int → Nat} (hg : ∀ x, inB x 0 99 = false → g x = 0) {zs : List Int} (h : Good zs zs.length) : (zs.map g).sum = ((sortU zs).map g).sum := by
  have hp : (zs.filter fun x => inB x 0 99).Perm (sortU zs) := by
    rw [← sort_keys h]
    exact (List.mergeSort_perm _ _).symm
  rw [← perm_sum hp]
  clear hp h
  induction zs with
  | nil => rfl
  | cons x l ih =>
    simp only [List.map_cons, List.sum_cons, List.filter_cons]
    cases hx : inB x 0 99
    · rw [hg x hx, ih]; simp
    · rw [ih]; simp

/-- From a free slot on a key lies behind its home, as far as it is away. -/
theorem lin_home {T : Tab} {zs : List Int} (P : PlainZ T zs) {f : Nat} (hf : f < T.zs.length) (hff : nth zs f = -1) {i : Nat} (hi : i < T.zs.length) (h0 : 0 ≤ nth zs i) :
    dst T.zs.length f i = dst T.zs.length f (homeN T (nth zs i)) + awN T zs i := by
  obtain ⟨a1, a2⟩ := P.at_ i hi h0
  have hw := P.way i hi h0
  have hh := P.home (nth zs i)
  have e1 := step_dst hf hh
  have hc := dst_lt hf hh
  generalize dst T.zs.length f (homeN T (nth zs i)) = c at e1 hc ⊢
  generalize awN T zs i = a at a1 a2 hw ⊢
  have hlt : c + a < T.zs.length := by
    refine Nat.lt_of_not_le fun hle => ?_
    have h1 := hw (T.zs.length - c) (by omega)
    have h2 : stepS T (homeN T (nth zs i)) (T.zs.length - c) = f := by
      conv => lhs; rw [← e1]
      rw [step_step, show c + (T.zs.length - c) = T.zs.length by omega]
      unfold stepS; rw [Nat.add_mod_right, Nat.mod_eq_of_lt hf]
    rw [h2] at h1
    exact h1 hff
  have h3 : stepS T f (c + a) = i := by rw [← step_step, e1, a2]
  rw [← h3]
  exact dst_step hf hlt
/-- How far keys lie from home altogether. -/
def awS (T : Tab) (zs : List Int) (i : Nat) : Nat := if nth zs i = -1 then 0 else awN T zs i
def linH (T : Tab) (f : Nat) (x : Int) : Nat := if inB x 0 99 then dst T.zs.length f (homeN T x) else 0
theorem tot_lin {T : Tab} {zs : List Int} (P : PlainZ T zs) {f : Nat} (hf : f < T.zs.length) (hff : nth zs f = -1) :
    sumU (awS T zs) T.zs.length + ((sortU zs).map (linH T f)).sum = sumU (fun i => if nth zs i = -1 then 0 else dst T.zs.length f i) T.zs.length := by
  rw [← map_keys (g := linH T f) (fun x hx => by unfold linH; rw [hx]; rfl) (by rw [P.len]; exact P.good), ← sumU_map, P.len, ← sumU_plus]
  refine sumU_congr fun i hi => ?_
  unfold awS
  by_cases c : nth zs i = -1
  · rw [if_pos c, if_pos c, c]; rfl
  · obtain ⟨k0, k9⟩ := P.key i hi c
    rw [if_neg c, if_neg c, lin_home P hf hff hi k0]
    unfold linH
    rw [inB_true ⟨k0, k9⟩]
    simp; omega
theorem tot_same {T : Tab} {xs ys : List Int} (P : PlainZ T xs) (Q : PlainZ T ys) (hx : -1 ∈ xs) (hy : -1 ∈ ys) (hk : sortU xs = sortU ys) : sumU (awS T xs) T.zs.length = sumU (awS T ys) T.zs.length := by
  obtain ⟨f, hf, ef⟩ := mem_nth hx
  rw [P.len] at hf
  have eg := (occ_same P Q hx hy hk hf).1 ef
  have h1 := tot_lin P hf ef
  have h2 := tot_lin Q hf eg
  have h3 : sumU (fun i => if nth xs i = -1 then 0 else dst T.zs.length f i) T.zs.length = sumU (fun i => if nth ys i = -1 then 0 else dst T.zs.length f i) T.zs.length := sumU_congr fun i hi => by
    have := occ_same P Q hx hy hk hi
    by_cases c : nth xs i = -1
    · rw [if_pos c, if_pos (this.1 c)]
    · rw [if_neg c, if_neg fun e => c (this.2 e)]
  rw [hk] at h1
  omega
theorem tot_away {T : Tab} {zs : List Int} (P : PlainZ T zs) : totalAway (tab T zs) = (sumU (awS T zs) T.zs.length : Nat) := by
  have h : ∀ k, k ≤ T.zs.length → totTo (tab T zs) k = (sumU (awS T zs) k : Nat) := fun k => by
    induction k with
    | zero => intro _; simp [totTo, sumU]
    | succ k ih =>
      intro hk
      simp only [totTo]
      rw [ih (by omega), sumU_succ]
      unfold awS
      by_cases c : nth zs k = -1
      · rw [if_pos c, free_away (T := tab T zs) (by show nth zs k < 0; omega)]; omega
      · have := (P.key k (by omega) c).1
        rw [if_neg c, awN_of P.val P.len (by omega) this]; omega
  unfold totalAway
  rw [if_pos P.val]
  have e : (tab T zs).zs.length = T.zs.length := P.len
  rw [e]
  exact h _ (Nat.le_refl _)

theorem most_is (T : Tab) : ∀ j, mostTo T j = 0 ∨ ∃ i, i < j ∧ mostTo T j = awayOf T i := by
  intro j
  induction j with
  | zero => exact .inl rfl
  | succ j ih =>
    simp only [mostTo]
    by_cases c : mostTo T j ≤ awayOf T j
    · exact .inr ⟨j, by omega, by omega⟩
    · rcases ih with h | ⟨i, hi, h⟩
      · left; omega
      · exact .inr ⟨i, by omega, by omega⟩
/-- Some key of any table of the same keys lies as far from home as one of the fair table. -/
theorem fair_most {T : Tab} {xs ys : List Int} (fx : fairB (tab T xs) = true) (P : PlainZ T xs) (Q : PlainZ T ys) (hy : -1 ∈ ys) (hk : sortU xs = sortU ys) {i : Nat} (hi : i < T.zs.length) (h0 : 0 ≤ nth xs i) :
    ∃ j, j < T.zs.length ∧ 0 ≤ nth ys j ∧ awN T xs i ≤ awN T ys j := by
  obtain ⟨_, hx, hto⟩ := fair_parts fx
  have hn := P.one
  obtain ⟨f, hf, ef⟩ := mem_nth (show -1 ∈ xs from hx)
  rw [P.len] at hf
  have eg := (occ_same P Q hx hy hk hf).1 ef
  have f0 : stepS T f 0 = f := Nat.mod_eq_of_lt hf
  have ei := step_dst hf hi
  have hPl := dst_lt hf hi
  have hlin := lin_home P hf ef hi h0
  obtain ⟨u, u1, u2, u3⟩ := free_ahead (T := T) (zs := xs) (f := f) (by rw [f0]; exact ef) (dst T.zs.length f i) (by rw [ei]; omega)
  have hsb := fairTo_iff.1 hto i (by show i < xs.length; rw [P.len]; exact hi)
  have hnj : ¬ nth (tab T xs).zs i < 0 := by show ¬ nth xs i < 0; omega
  have haw : awN (tab T xs) (tab T xs).zs i = awN T xs i := by
    show dst (tab T xs).zs.length (homeN (tab T xs) (nth xs i)) i = _
    rw [show (tab T xs).zs.length = T.zs.length from P.len, tab_home P.len]; rfl
  simp only [slotB, hnj, decide_false, Bool.false_or] at hsb
  rw [haw] at hsb
  have hstep : ∀ h m, stepS (tab T xs) h m = stepS T h m := fun h m => by simp [stepS, tab, P.len]
  have hah : ∀ d, d < awN T xs i → (d : Int) ≤ awayOf (tab T xs) (stepS T (homeN T (nth xs i)) d : Nat) := fun d hd => by
    have := wayB_iff.1 hsb d hd
    have ez : nth (tab T xs).zs i = nth xs i := rfl
    rw [ez, tab_home P.len, hstep] at this
    unfold aheadB at this
    simp only [Bool.or_eq_true, Bool.and_eq_true, decide_eq_true_eq, beq_iff_eq] at this
    omega
  generalize hPp : dst T.zs.length f i = Pp at hPl hlin ei u1 u3
  generalize hHh : dst T.zs.length f (homeN T (nth xs i)) = H at hlin
  generalize haa : awN T xs i = a at hlin hah ⊢
  have hHs : stepS T f H = homeN T (nth xs i) := by rw [← hHh]; exact step_dst hf (P.home _)
  let q : Int → Bool := fun x => inB x 0 99 && (decide (u + 1 ≤ dst T.zs.length f (homeN T x)) && decide (dst T.zs.length f (homeN T x) ≤ H))
  have hq : ∀ x, q x = true → inB x 0 99 = true := fun x h => by
    simp only [q, Bool.and_eq_true] at h
    exact h.1
  have hc : xs.countP q = ys.countP q := by
    have h1 := countP_keys (zs := xs) hq (by rw [P.len]; exact P.good)
    have h2 := countP_keys (zs := ys) hq (by rw [Q.len]; exact Q.good)
    rw [h1, h2, hk]
  -- the run up to the key holds such keys alone
  have hX : Pp - u ≤ xs.countP q := by
    rw [← sumU_countP, P.len, ← sum_turn T (fun i => if q (nth xs i) then 1 else 0) (h := stepS T f (u + 1)) (stepS_lt hn _ _)]
    refine sumU_ge _ (by omega) fun d hd => ?_
    rw [step_step]
    have hsl := stepS_lt (T := T) hn f (u + 1 + d)
    have hne := u3 (u + 1 + d) (by omega) (by omega)
    obtain ⟨k0, k9⟩ := P.key _ hsl hne
    have hl := lin_home P hf ef hsl k0
    rw [dst_step hf (by omega)] at hl
    have hw := P.way _ hsl k0
    obtain ⟨b1, b2⟩ := P.at_ _ hsl k0
    -- its home lies behind the free slot
    have h1 : u + 1 ≤ dst T.zs.length f (homeN T (nth xs (stepS T f (u + 1 + d)))) := by
      refine Nat.le_of_not_lt fun hlt => ?_
      have h2 := hw (u - dst T.zs.length f (homeN T (nth xs (stepS T f (u + 1 + d))))) (by omega)
      have h3 : stepS T (homeN T (nth xs (stepS T f (u + 1 + d)))) (u - dst T.zs.length f (homeN T (nth xs (stepS T f (u + 1 + d))))) = stepS T f u := by
        conv => lhs; rw [show homeN T (nth xs (stepS T f (u + 1 + d))) = stepS T f (dst T.zs.length f (homeN T (nth xs (stepS T f (u + 1 + d))))) from (step_dst hf (P.home _)).symm]
        rw [step_step, dst_step hf (dst_lt hf (P.home _))]
        congr 1; omega
      rw [h3] at h2
      exact h2 u2
    have h2 : dst T.zs.length f (homeN T (nth xs (stepS T f (u + 1 + d)))) ≤ H := by
      by_cases c : u + 1 + d < H
      · omega
      · by_cases c2 : u + 1 + d = Pp
        · rw [c2, ei, hHh]; exact Nat.le_refl _
        · have h3 := hah (u + 1 + d - H) (by omega)
          rw [← hHs, step_step, show H + (u + 1 + d - H) = u + 1 + d by omega, awN_of P.val P.len hsl k0] at h3
          omega
    rw [if_pos]
    simp only [q, Bool.and_eq_true, decide_eq_true_eq]
    exact ⟨inB_true ⟨k0, k9⟩, h1, h2⟩
  -- so one of them lies as far on in the other table
  by_cases hex : ∃ j, j < T.zs.length ∧ q (nth ys j) = true ∧ Pp ≤ dst T.zs.length f j
  · obtain ⟨j, hj, hqj, hge⟩ := hex
    have hk0 := (inB_iff.1 (hq _ hqj)).1
    refine ⟨j, hj, hk0, ?_⟩
    have hl := lin_home Q hf eg hj hk0
    simp only [q, Bool.and_eq_true, decide_eq_true_eq] at hqj
    omega
  · exfalso
    have hY : ys.countP q ≤ Pp - u - 1 := by
      rw [← sumU_countP, Q.len, ← sum_turn T (fun i => if q (nth ys i) then 1 else 0) (h := stepS T f (u + 1)) (stepS_lt hn _ _)]
      refine sumU_few _ (fun d _ => by split <;> omega) fun d hd hle => ?_
      rw [step_step, if_neg]
      intro hqj
      have hsl := stepS_lt (T := T) hn f (u + 1 + d)
      have hk0 := (inB_iff.1 (hq _ hqj)).1
      have hl := lin_home Q hf eg hsl hk0
      have hlt : dst T.zs.length f (stepS T f (u + 1 + d)) < Pp := Nat.lt_of_not_le fun h => hex ⟨_, hsl, hqj, h⟩
      simp only [q, Bool.and_eq_true, decide_eq_true_eq] at hqj
      by_cases c : u + 1 + d < T.zs.length
      · rw [dst_step hf c] at hlt; omega
      · have h4 : stepS T f (u + 1 + d - T.zs.length) = stepS T f (u + 1 + d) := by
          unfold stepS
          rw [show f + (u + 1 + d) = f + (u + 1 + d - T.zs.length) + T.zs.length by omega, Nat.add_mod_right]
        rw [← h4, dst_step hf (by omega)] at hlt hl
        have h5 := hqj.2.1
        rw [← h4] at h5
        rw [h4] at hl h5
        omega
    omega
theorem most_le {T : Tab} {xs ys : List Int} (fx : fairB (tab T xs) = true) (P : PlainZ T xs) (Q : PlainZ T ys) (hy : -1 ∈ ys) (hk : sortU xs = sortU ys) : mostAway (tab T xs) ≤ mostAway (tab T ys) := by
  have ex : (tab T xs).zs.length = T.zs.length := P.len
  have ey : (tab T ys).zs.length = T.zs.length := Q.len
  unfold mostAway
  rw [if_pos P.val, if_pos Q.val, ex, ey]
  obtain ⟨⟨_, l2⟩, _⟩ := valid_facts Q.val
  have h0 := (mostTo_bounds (tab T ys) l2 T.zs.length).1
  rcases most_is (tab T xs) T.zs.length with h | ⟨i, hi, h⟩
  · omega
  · by_cases c : nth xs i = -1
    · rw [free_away (T := tab T xs) (by show nth xs i < 0; omega)] at h; omega
    · have k0 := (P.key i hi c).1
      rw [awN_of P.val P.len hi k0] at h
      obtain ⟨j, hj, hj0, hle⟩ := fair_most fx P Q hy hk hi k0
      have := most_ge (T := tab T ys) (i := j) hj
      rw [awN_of Q.val Q.len hj hj0] at this
      omega

end Go.Proofs.YtkdkdmjhhgllgaaGreatDoor

namespace Go.Proofs.YtkdkdmjhhgllgaaGreatDoor

/-- What is visited for a key that is found. -/
theorem vis_at {T : Tab} {zs : List Int} (hs : soundB (tab T zs) = true) (hl : zs.length = T.zs.length) {i : Nat} (hi : i < T.zs.length) (h0 : 0 ≤ nth zs i) :
    visN (tab T zs) (nth zs i) (homeN (tab T zs) (nth zs i)) = awN T zs i + 1 := by
  have hv : validB (tab T zs) = true := by
    simp only [soundB, Bool.and_eq_true] at hs
    exact hs.1
  obtain ⟨⟨l1, _⟩, _⟩ := valid_facts hv
  have hf := sound_find hs (i := i) (by show i < zs.length; omega) h0
  obtain ⟨e1, e2⟩ := find_yes (T := tab T zs) (key := nth zs i) (by have : findI (tab T zs) (nth (tab T zs).zs i) = i := hf; have e : nth (tab T zs).zs i = nth zs i := rfl; rw [e] at this; omega)
  have hf' : findI (tab T zs) (nth zs i) = i := hf
  have ha := last_away (T := tab T zs) hv h0 e2
  have hb := visN_bounds l1 (nth zs i) (homeN (tab T zs) (nth zs i))
  rw [← e1, hf', awN_of hv hl hi h0] at ha
  omega

/-- What lies in a row was there, elsewhere than in slot k, and no nearer to its home; and what was free is. -/
structure Nearer (T : Tab) (k : Nat) (zs : List Int) : Prop where
  free : ∀ i, i < T.zs.length → nth T.zs i = -1 → nth zs i = -1
  near : ∀ i, i < T.zs.length → 0 ≤ nth zs i → ∃ j, j < T.zs.length ∧ j ≠ k ∧ nth T.zs j = nth zs i ∧ awN T zs i ≤ awN T T.zs j
theorem Nearer.move {T : Tab} {k : Nat} {zs : List Int} {hole d : Nat} (w : Nearer T k zs) (h : Hole T zs hole d) (ho : nth T.zs hole ≠ -1) (hx : nth zs (fwd T.zs.length hole d) ≠ -1) (ha : ¬ awN T zs (fwd T.zs.length hole d) < d) :
    Nearer T k (moved T zs hole d) := by
  obtain ⟨f1, f2, f3, f4⟩ := h.full hx
  refine ⟨fun i hi hf => ?_, fun i hi h0 => ?_⟩
  · rw [h.nth_moved]
    split
    · rfl
    · split
      · rename_i e; subst e; exact absurd hf ho
      · exact w.free i hi hf
  · rw [h.nth_moved] at h0 ⊢
    unfold awN
    rw [h.nth_moved]
    split at h0
    · omega
    · rename_i c1
      rw [if_neg c1]
      by_cases c2 : i = hole
      · rw [if_pos c2]
        obtain ⟨j, j1, j2, j3, j4⟩ := w.near _ h.klt f3
        refine ⟨j, j1, j2, j3, ?_⟩
        have hc := dst_cut (h.home (nth zs (fwd T.zs.length hole d))) h.lt f1 ha
        unfold awN at j4
        subst c2
        omega
      · rw [if_neg c2] at h0 ⊢
        exact w.near i hi h0
theorem shift_nearer (T : Tab) (k : Nat) : ∀ (f : Nat) (zs : List Int) (hole d : Nat), Hole T zs hole d → nth T.zs hole ≠ -1 → Nearer T k zs → Nearer T k (shiftF T f zs hole d).2 := by
  intro f
  induction f with
  | zero => intro zs hole d _ _ h; exact h
  | succ f ih =>
    intro zs hole d hH ho hw
    simp only [shiftF]
    split
    · exact hw
    · rename_i hx
      split
      · exact ih _ _ _ (hH.pass hx) ho hw
      · rename_i ha
        exact ih (moved T zs hole d) _ _ (hH.move hx) (fun e => hx (hw.free _ hH.klt e)) (hw.move hH ho hx ha)
theorem nearer_start {T : Tab} {k : Nat} (hk : k < T.zs.length) : Nearer T k (T.zs.set k (-1)) := by
  refine ⟨fun i hi hf => ?_, fun i hi h0 => ?_⟩
  · rw [nth_set hk]
    split
    · rfl
    · exact hf
  · rw [nth_set hk] at h0 ⊢
    unfold awN
    rw [nth_set hk]
    split at h0
    · omega
    · rename_i c
      rw [if_neg c]
      exact ⟨i, hi, c, rfl, Nat.le_refl _⟩

/-- Shifted and tombed. -/
theorem shift_clean {T : Tab} {key : Int} (h : shiftOk T key = true) : dropOk T key = true ∧ (validB (shiftT T key) = true ∧ validB (dropT T key) = true ∧ (shiftT T key).zs.length = T.zs.length ∧ (dropT T key).zs.length = T.zs.length) ∧
    (∀ i, missN (shiftT T key) i ≤ missN (dropT T key) i) ∧ ∀ y, y ∈ (shiftT T key).zs → inB y 0 99 = true → visOf (shiftT T key) y ≤ visOf (dropT T key) y := by
  obtain ⟨k, S⟩ := shift_says h
  have hd : dropOk T key = true := by
    obtain ⟨hs, _, _⟩ := plain_parts S.plain
    simp only [dropOk, Bool.and_eq_true, decide_eq_true_eq]
    exact ⟨by rw [S.find]; omega, hs⟩
  refine ⟨hd, ?_⟩
  have eX : shiftT T key = tab T (shiftZ T T.zs k).2 := by
    unfold shiftT
    rw [if_pos h, S.find, Int.toNat_natCast]
  have eY : dropT T key = tab T (dropL [key] T.zs) := dropT_yes hd
  rw [eX, eY]
  have hN : Nearer T k (shiftZ T T.zs k).2 := shift_nearer T k _ _ _ _ S.hole (by rw [S.here]; have := S.key0; omega) (nearer_start S.lt)
  have hpl := left_plain S.left
  obtain ⟨hsX, hvX, _⟩ := plain_parts hpl
  obtain ⟨hsT, _, _⟩ := plain_parts S.plain
  have hsY : soundB (tab T (dropL [key] T.zs)) = true := drop_sound hsT [key]
  have hvY : validB (tab T (dropL [key] T.zs)) = true := by
    have := hsY
    simp only [soundB, Bool.and_eq_true] at this
    exact this.1
  have hlX : (shiftZ T T.zs k).2.length = T.zs.length := S.left.len
  have hlY := dropL_len [key] T.zs
  refine ⟨⟨hvX, hvY, hlX, hlY⟩, fun i => ?_, fun y hy hk => ?_⟩
  · have hm := goN_mono (p := freeAt (tab T (dropL [key] T.zs)) i) (q := freeAt (tab T (shiftZ T T.zs k).2) i) (n := T.zs.length) fun d _ hf => by
      have hst := stepS_lt (T := T) (by have := S.lt; omega) i d
      simp only [freeAt, beq_iff_eq] at hf ⊢
      have e1 : stepS (tab T (dropL [key] T.zs)) i d = stepS T i d := by simp [stepS, tab, hlY]
      have e2 : stepS (tab T (shiftZ T T.zs k).2) i d = stepS T i d := by simp [stepS, tab, hlX]
      rw [e1] at hf
      rw [e2]
      refine hN.free _ hst ?_
      have hf2 : nth (dropL [key] T.zs) (stepS T i d) = -1 := hf
      rw [dropL_nth hst] at hf2
      split at hf2
      · omega
      · exact hf2
    unfold missN cntN
    show min (goN _ (shiftZ T T.zs k).2.length + 1) (shiftZ T T.zs k).2.length ≤ min (goN _ (dropL [key] T.zs).length + 1) (dropL [key] T.zs).length
    rw [hlX, hlY]
    omega
  · obtain ⟨i, hi, e⟩ := mem_nth hy
    have hi' : i < T.zs.length := by have : i < (shiftZ T T.zs k).2.length := hi; omega
    have e' : nth (shiftZ T T.zs k).2 i = y := e
    have h0 : 0 ≤ y := (inB_iff.1 hk).1
    obtain ⟨j, j1, j2, j3, j4⟩ := hN.near i hi' (by omega)
    have hne : y ≠ key := fun c => j2 (by
      obtain ⟨_, _, _, hg⟩ := valid_facts S.val
      have hj0 : 0 ≤ nth T.zs j := by rw [j3, e']; exact h0
      have h1 := sound_find hsT j1 hj0
      have h2 := sound_find hsT S.lt (by rw [S.here]; exact S.key0.1)
      rw [S.here] at h2
      rw [j3, e', c, h2] at h1
      omega)
    have hyY : nth (dropL [key] T.zs) j = y := by
      rw [dropL_nth j1, j3, e', if_neg (by simpa using hne)]
    have vX := vis_at hsX hlX hi' (by omega)
    have vY := vis_at hsY hlY j1 (by omega)
    rw [e'] at vX
    rw [hyY] at vY
    have aY : awN T (dropL [key] T.zs) j = awN T T.zs j := by unfold awN; rw [hyY, j3, e']
    simp only [visOf, hvX, hvY, hk, Bool.and_self, if_true]
    rw [vX, vY, aY]
    omega

/-- What FnShiftClean asks. -/
structure CleanSays (T : Tab) (key : Int) (X Y : Tab) : Prop where
  drop : dropOk T key = true
  len : X.zs.length = T.zs.length
  lenY : Y.zs.length = T.zs.length
  one : 1 ≤ T.zs.length
  top : T.zs.length ≤ 16
  keys : (if validB X then sortU X.zs else []).length ≤ 100
  vis : ∀ k, k < (if validB X then sortU X.zs else []).length → visOf X (nth (if validB X then sortU X.zs else []) k) ≤ visOf Y (nth (if validB X then sortU X.zs else []) k)
  miss : ∀ i : Nat, i < T.zs.length → missI X i ≤ missI Y i
theorem clean_says {T : Tab} {key : Int} (h : shiftOk T key = true) : CleanSays T key (shiftT T key) (dropT T key) := by
  obtain ⟨hd, ⟨vx, vy, lx, ly⟩, hm, hv⟩ := shift_clean h
  obtain ⟨k, S⟩ := shift_says h
  obtain ⟨⟨l1, l2⟩, _⟩ := valid_facts S.val
  refine ⟨hd, lx, ly, l1, l2, ?_, ?_, fun i hi => ?_⟩
  · rw [if_pos vx]; exact sortTo_len _ _
  · rw [if_pos vx]
    intro k hk
    obtain ⟨h1, h2⟩ := sortU_mem.1 (nth_mem hk)
    exact hv _ h2 (inB_true h1)
  · have b1 : inB (i : Int) 0 ((shiftT T key).zs.length - 1) = true := inB_true (by omega)
    have b2 : inB (i : Int) 0 ((dropT T key).zs.length - 1) = true := inB_true (by omega)
    have := hm i
    simp only [missI, vx, vy, b1, b2, Bool.and_self, if_true, Int.toNat_natCast]
    omega

end Go.Proofs.YtkdkdmjhhgllgaaGreatDoor

namespace Go.Proofs.YtkdkdmjhhgllgaaGreatDoor

theorem hits_congr {T U : Tab} {l : List Int} (h : ∀ x, x ∈ l → visOf T x = visOf U x) : hitsL T l = hitsL U l := by
  unfold hitsL
  rw [List.map_congr_left h]
theorem sort_set {zs : List Int} {k : Nat} {key : Int} (hk : k < zs.length) (hlow : nth zs k < 0) (h0 : 0 ≤ key) (h9 : key ≤ 99) (hn : key ∉ zs) : (key :: sortU zs).Perm (sortU (zs.set k key)) := by
  have hne : ∀ {l : List Int}, l.Pairwise (· < ·) → l.Nodup := fun h => h.imp fun hlt e => by omega
  have d1 : (key :: sortU zs).Nodup := List.nodup_cons.2 ⟨fun h => hn (sortU_mem.1 h).2, hne (sortU_pairwise zs)⟩
  refine (List.perm_ext_iff_of_nodup d1 (hne (sortU_pairwise _))).2 fun x => ?_
  rw [List.mem_cons, sortU_mem, sortU_mem]
  have hm : ∀ y, 0 ≤ y → (y ∈ zs.set k key ↔ y = key ∨ y ∈ zs) := fun y hy => by
    constructor
    · intro h
      obtain ⟨i, hi, e⟩ := mem_nth h
      rw [List.length_set] at hi
      rw [nth_set hk] at e
      split at e
      · exact .inl e.symm
      · exact .inr (e ▸ nth_mem hi)
    · rintro (rfl | h)
      · have := nth_mem (zs := zs.set k y) (i := k) (by rw [List.length_set]; exact hk)
        rwa [nth_set hk, if_pos rfl] at this
      · obtain ⟨i, hi, e⟩ := mem_nth h
        have hik : i ≠ k := fun c => by subst c; omega
        have := nth_mem (zs := zs.set k key) (i := i) (by rw [List.length_set]; exact hi)
        rwa [nth_set hk, if_neg hik, e] at this
  constructor
  · rintro (rfl | ⟨h1, h2⟩)
    · exact ⟨⟨h0, h9⟩, (hm _ h0).2 (.inl rfl)⟩
    · exact ⟨h1, (hm _ h1.1).2 (.inr h2)⟩
  · rintro ⟨h1, h2⟩
    rcases (hm _ h1.1).1 h2 with h | h
    · exact .inl h
    · exact .inr ⟨h1, h⟩

theorem miss_more {T : Tab} {k : Nat} {key : Int} (hk : k < T.zs.length) (h0 : 0 ≤ key) (i : Nat) : missN T i ≤ missN (putAt T k key) i := by
  have hm := goN_mono (p := freeAt (putAt T k key) i) (q := freeAt T i) (n := T.zs.length) fun d _ hf => by
    simp only [freeAt, beq_iff_eq, putAt_step] at hf ⊢
    have hf2 : nth (T.zs.set k key) (stepS T i d) = -1 := hf
    rw [nth_set hk] at hf2
    split at hf2
    · omega
    · exact hf2
  unfold missN cntN
  rw [putAt_len]
  omega
theorem miss_tomb {T : Tab} {k : Nat} {key : Int} (hk : k < T.zs.length) (h0 : 0 ≤ key) (ht : nth T.zs k = -2) (i : Nat) : missN (putAt T k key) i = missN T i := by
  have : freeAt (putAt T k key) i = freeAt T i := funext fun d => by
    simp only [freeAt, putAt_step]
    have : nth (putAt T k key).zs (stepS T i d) = if stepS T i d = k then key else nth T.zs (stepS T i d) := nth_set hk key _
    rw [this]
    split
    · rename_i e
      rw [e, ht, beq_eq_false_iff_ne.2 (by omega), beq_eq_false_iff_ne.2 (by omega)]
    · rfl
  unfold missN
  rw [this, putAt_len]
theorem missTo_mono {T U : Tab} {n : Nat} (h : ∀ i, i < n → missN T i ≤ missN U i) : missTo T n ≤ missTo U n ∧ ∀ k, k < n → missN T k < missN U k → missTo T n < missTo U n := by
  induction n with
  | zero => exact ⟨Nat.le_refl _, fun k hk => by omega⟩
  | succ n ih =>
    obtain ⟨h1, h2⟩ := ih fun i hi => h i (by omega)
    have h3 := h n (by omega)
    rw [missTo_succ, missTo_succ]
    refine ⟨by omega, fun k hk hlt => ?_⟩
    by_cases c : k = n
    · subst c; omega
    · have := h2 k (by omega) hlt; omega

structure MoreSays (T : Tab) (key : Int) (U : Tab) (k : Nat) : Prop where
  val : validB T = true
  val2 : validB U = true
  len : U.zs.length = T.zs.length
  lt : k < T.zs.length
  find : findOf U key = k
  miss : ∀ i, missN T i ≤ missN U i
  hits : hitI U = hitI T + visOf U key
  all : T.zs.length = 1 ∨ ((nth T.zs k == -2) = (missAll U == missAll T))

theorem more_says {T : Tab} {key : Int} (h : putOk T key = true) : ∃ k, MoreSays T key (putT T key) k := by
  obtain ⟨hp, hs⟩ := putOk_parts h
  have P := put_says h
  have eU : putT T key = putAt T (placeI T key).toNat key := by unfold putT; rw [if_pos h]
  obtain ⟨hv, hkk, hnf, _⟩ := place_asked hp
  rw [eU]
  generalize hk : (placeI T key).toNat = k at P
  have hkb : inB key 0 99 = true := inB_true P.key0
  obtain ⟨⟨l1, _⟩, _⟩ := valid_facts hv
  have hnin : key ∉ T.zs := fun hm => by
    obtain ⟨i, hi, e⟩ := mem_nth hm
    have := sound_find hs hi (by rw [e]; exact P.key0.1)
    rw [e] at this
    omega
  have hvis : ∀ y, y ∈ sortU T.zs → visOf T y = visOf (putAt T k key) y := fun y hy => by
    obtain ⟨hy1, hy2⟩ := sortU_mem.1 hy
    obtain ⟨i, hi, e⟩ := mem_nth hy2
    have hik : i ≠ k := fun c => by subst c; have := P.low; omega
    have v1 := vis_at (T := T) (zs := T.zs) hs rfl hi (by rw [e]; exact hy1.1)
    have e2 : nth (T.zs.set k key) i = y := by rw [nth_set P.lt, if_neg hik, e]
    have v2 := vis_at (T := T) (zs := T.zs.set k key) P.sound2 (by simp) hi (by rw [e2]; exact hy1.1)
    rw [e] at v1
    rw [e2] at v2
    have ea : awN T (T.zs.set k key) i = awN T T.zs i := by unfold awN; rw [e2, e]
    have b : inB y 0 99 = true := inB_true hy1
    have w1 : visN T y (homeN T y) = awN T T.zs i + 1 := v1
    have w2 : visN (putAt T k key) y (homeN (putAt T k key) y) = awN T (T.zs.set k key) i + 1 := v2
    simp only [visOf, hv, P.val2, b, Bool.and_self, if_true]
    rw [w1, w2, ea]
  refine ⟨k, hv, P.val2, putAt_len _ _ _, P.lt, ?_, fun i => miss_more P.lt P.key0.1 i, ?_, ?_⟩
  · unfold findOf
    rw [if_pos (by simp [P.val2, hkb]), P.find2]
  · have hpm := hitsL_perm (T := putAt T k key) (sort_set P.lt P.low P.key0.1 P.key0.2 hnin)
    have hc : hitsL (putAt T k key) (key :: sortU T.zs) = visOf (putAt T k key) key + hitsL (putAt T k key) (sortU T.zs) := by simp [hitsL]
    unfold hitI
    rw [if_pos P.sound2, if_pos hs]
    show hitsL (putAt T k key) (sortU (T.zs.set k key)) = _
    rw [← hpm, hc, hits_congr hvis]
    omega
  · by_cases n1 : T.zs.length = 1
    · exact .inl n1
    · right
      have hl := valid_slot hv P.lt
      have hlow := P.low
      unfold missAll
      rw [if_pos hv, if_pos P.val2, putAt_len]
      by_cases c : nth T.zs k = -2
      · have e : missTo (putAt T k key) T.zs.length = missTo T T.zs.length := by
          unfold missTo
          rw [List.map_congr_left fun i _ => miss_tomb P.lt P.key0.1 c i]
        rw [e, c]
        simp
      · have cf : nth T.zs k = -1 := by omega
        have h1 : missN T k = 1 := miss_free P.lt cf
        have h2 : 2 ≤ missN (putAt T k key) k := by
          unfold missN cntN
          rw [putAt_len]
          have : goN (freeAt (putAt T k key) k) T.zs.length ≠ 0 := fun e => by
            have := goN_stop (p := freeAt (putAt T k key) k) (n := T.zs.length) (by omega)
            rw [e] at this
            simp only [freeAt, putAt_step, beq_iff_eq] at this
            have e0 : stepS T k 0 = k := Nat.mod_eq_of_lt P.lt
            have e1 : nth (T.zs.set k key) (stepS T k 0) = -1 := this
            rw [e0, nth_set P.lt, if_pos rfl] at e1
            have := P.key0
            omega
          omega
        have hlt := (missTo_mono (T := T) (U := putAt T k key) (n := T.zs.length) fun i _ => miss_more P.lt P.key0.1 i).2 k P.lt (by omega)
        rw [cf, beq_eq_false_iff_ne.2 (by omega), beq_eq_false_iff_ne.2 (by omega)]

theorem hitI_bounds (T : Tab) : -1 ≤ hitI T ∧ hitI T ≤ 1600 := by
  unfold hitI
  split
  · rename_i hs
    have hv : validB T = true := by
      simp only [soundB, Bool.and_eq_true] at hs
      exact hs.1
    have h1 := hitsL_bounds hv (l := sortU T.zs) fun x hx => inB_true (sortU_mem.1 hx).1
    have h2 : (sortU T.zs).length ≤ 100 := sortTo_len _ _
    omega
  · omega
theorem visOf_range (T : Tab) (key : Int) : -1 ≤ visOf T key ∧ visOf T key ≤ 16 := by
  by_cases h : (validB T && inB key 0 99) = true
  · simp only [Bool.and_eq_true] at h
    have := visOf_bounds h.1 h.2
    omega
  · have : visOf T key = -1 := by simp [visOf, h]
    omega
theorem MoreSays.at_ {T : Tab} {key : Int} {U : Tab} {k : Nat} (M : MoreSays T key U k) {i : Nat} (hi : i < T.zs.length) : missI T i ≤ missI U i := by
  have b1 : inB (i : Int) 0 (T.zs.length - 1) = true := inB_true (by omega)
  have b2 : inB (i : Int) 0 (U.zs.length - 1) = true := inB_true (by rw [M.len]; omega)
  have := M.miss i
  simp only [missI, M.val, M.val2, b1, b2, Bool.and_self, if_true, Int.toNat_natCast]
  omega

end Go.Proofs.YtkdkdmjhhgllgaaGreatDoor

namespace Go.Proofs.YtkdkdmjhhgllgaaGreatDoor

/-- As many free slots (as FairOf has them). -/
def freeG (T : Tab) : Tab := ⟨T.t, T.p, List.replicate T.zs.length (-1)⟩
def keysG (T : Tab) : List Int := if validB T then sortU T.zs else []
def fogOk (T : Tab) : Bool := fallOk (freeG T) (keysG T)

theorem free_fair {T : Tab} (hv : validB T = true) : fairB (freeG T) = true := by
  obtain ⟨⟨l1, l2⟩, _⟩ := valid_facts hv
  have hl : (freeG T).zs.length = T.zs.length := by simp [freeG]
  have hn : ∀ i, i < T.zs.length → nth (freeG T).zs i = -1 := fun i hi => nth_rep hi
  have hv2 : validB (freeG T) = true := by
    have := (clean_nil hv).snd
    simp only [soundB, Bool.and_eq_true] at this
    exact this.1
  refine lok_fair hv2 (fun i hi => by rw [hl] at hi; rw [hn i hi]; omega) (by rw [← hn 0 (by omega)]; exact nth_mem (by omega)) fun i hi => .inl ?_
  rw [hl] at hi ⊢
  rw [free_away (by rw [hn _ (Nat.mod_lt _ (by omega))]; omega)]
  omega
theorem keysG_ok (T : Tab) (hv : validB T = true) : keysB (keysG T) = true := by
  unfold keysG
  rw [if_pos hv]
  simp only [keysB, Bool.and_eq_true, decide_eq_true_eq, List.all_eq_true]
  exact ⟨sortTo_len _ _, fun x hx => inB_true (sortU_mem.1 hx).1⟩
theorem keysG_mem {T : Tab} (hv : validB T = true) {z : Int} (h0 : 0 ≤ z) (h9 : z ≤ 99) : (z ∈ (freeG T).zs ∨ z ∈ keysG T) ↔ z ∈ T.zs := by
  unfold keysG
  rw [if_pos hv, sortU_mem]
  constructor
  · rintro (h | h)
    · have := List.eq_of_mem_replicate h
      omega
    · exact h.2
  · intro h
    exact .inr ⟨⟨h0, h9⟩, h⟩
/-- The fair table of a table's keys. -/
theorem fog_says {T : Tab} (hv : validB T = true) (h : fogOk T = true) : ∃ zs, fallT (freeG T) (keysG T) = tab T zs ∧ FairZ T zs (fun z => z ∈ T.zs) := by
  obtain ⟨_, _, zs, e, Z⟩ := fall_says h
  have hl : (freeG T).zs.length = T.zs.length := by simp [freeG]
  exact ⟨zs, e, Z.fair, Z.len.trans hl, fun z h0 h9 => (Z.mem z h0 h9).trans (keysG_mem hv h0 h9)⟩
/-- A table of whose keys a fair row has all has a fair one. -/
theorem fog_ok {T : Tab} (hv : validB T = true) {xs : List Int} {S : Int → Prop} (X : FairZ T xs S) (hs : ∀ z, z ∈ T.zs → 0 ≤ z → z ≤ 99 → S z) : fogOk T = true := by
  have hl : (freeG T).zs.length = T.zs.length := by simp [freeG]
  refine fall_room (T := freeG T) (free_fair hv) (keysG_ok T hv) (xs := xs) (S := S) ⟨X.fair, X.len.trans hl.symm, X.mem⟩ (fun z h0 h9 hz => ?_) fun z hz => ?_
  · exact hs z ((keysG_mem hv h0 h9).1 (.inl hz)) h0 h9
  · unfold keysG at hz
    rw [if_pos hv] at hz
    obtain ⟨⟨h0, h9⟩, h⟩ := sortU_mem.1 hz
    exact hs z h h0 h9
/-- A fair table is the fair one of its keys. -/
theorem fog_fair {T : Tab} (hf : fairB T = true) : fogOk T = true ∧ fallT (freeG T) (keysG T) = T := by
  have hv : validB T = true := (plain_parts (fair_parts hf).1).2.1
  have X := fairZ_start hf
  have ok := fog_ok hv X fun z h _ _ => h
  obtain ⟨zs, e, Z⟩ := fog_says hv ok
  refine ⟨ok, ?_⟩
  rw [e, Z.uniq X fun z _ _ => Iff.rfl]
  rfl

/-- A clean table's row. -/
theorem clean_row {T : Tab} (hs : soundB T = true) : ∃ ys, cleanT T = tab T ys ∧ plainB (tab T ys) = true ∧ ys.length = T.zs.length ∧ sortU ys = sortU T.zs := by
  have hv := (sound_all.1 hs).1
  obtain ⟨_, _, _, hg⟩ := valid_facts hv
  have C := clean_to hv T.zs.length (Nat.le_refl _)
  rw [List.take_length] at C
  rw [cleanT_yes hs]
  generalize putsT T (keysLL T.zs) = Y at C
  have e : Y = tab T Y.zs := by
    obtain ⟨t, p, zs⟩ := Y
    have h1 := C.t
    have h2 := C.p
    simp only at h1 h2
    subst h1 h2
    rfl
  have hpl : plainB (tab T Y.zs) = true := by
    rw [← e]
    simp only [plainB, Bool.and_eq_true, Bool.not_eq_true']
    refine ⟨C.snd, decide_eq_false fun h => ?_⟩
    obtain ⟨i, hi, e2⟩ := mem_nth h
    rw [C.len] at hi
    exact C.tomb i hi e2
  refine ⟨Y.zs, e, hpl, C.len, ?_⟩
  -- as many keys, and all of them T's: the same
  have P := plainZ hpl C.len
  have hYg : Good Y.zs Y.zs.length := by rw [C.len]; exact P.good
  have hsub : ∀ z, z ∈ sortU Y.zs → z ∈ sortU T.zs := fun z hz => by
    obtain ⟨⟨h0, h9⟩, hm⟩ := sortU_mem.1 hz
    obtain ⟨i, hi, e2⟩ := mem_nth hm
    rw [C.len] at hi
    have := C.keys i hi (by omega)
    rw [e2] at this
    exact sortU_mem.2 ⟨⟨h0, h9⟩, (List.mem_filter.1 this).1⟩
  have hpT : (T.zs.filter fun x => inB x 0 99).Perm (sortU T.zs) := by
    rw [← sort_keys hg]
    exact (List.mergeSort_perm _ _).symm
  have hpY : (Y.zs.filter fun x => inB x 0 99).Perm (sortU Y.zs) := by
    rw [← sort_keys hYg]
    exact (List.mergeSort_perm _ _).symm
  have hlen : (sortU Y.zs).length = (sortU T.zs).length := by
    rw [← hpT.length_eq, ← hpY.length_eq]
    have h1 := C.cnt
    unfold cnt at h1
    rw [List.take_length, List.countP_eq_length_filter] at h1
    have h2 : (Y.zs.filter fun x => inB x 0 99) = Y.zs.filter keyP := List.filter_congr fun x hx => by
      obtain ⟨i, hi, e2⟩ := mem_nth hx
      rw [C.len] at hi
      by_cases c : x = -1
      · subst c; decide
      · have hk := P.key i hi (by rw [e2]; exact c)
        rw [e2] at hk
        have h3 : x ≠ -2 := by omega
        rw [inB_true hk]
        simp [keyP, c, h3]
    rw [h2, h1]
    rfl
  refine sortU_same fun z h0 h9 => ?_
  have hz : z ∈ sortU Y.zs ↔ z ∈ sortU T.zs := by
    refine ⟨hsub z, fun h => ?_⟩
    by_cases c : z ∈ sortU Y.zs
    · exact c
    · have := nodup_length (l := z :: sortU Y.zs) (m := sortU T.zs) (List.nodup_cons.2 ⟨c, sortU_nodup _⟩) fun y hy => by
        rcases List.mem_cons.1 hy with rfl | hy
        · exact h
        · exact hsub y hy
      simp only [List.length_cons] at this
      omega
  rw [sortU_mem, sortU_mem] at hz
  constructor
  · intro h; exact (hz.1 ⟨⟨h0, h9⟩, h⟩).2
  · intro h; exact (hz.2 ⟨⟨h0, h9⟩, h⟩).2
/-- A row of fewer keys than slots has a free one. -/
theorem plain_free {T : Tab} {zs : List Int} (P : PlainZ T zs) (h : (sortU zs).length < T.zs.length) : -1 ∈ zs := by
  by_cases c : -1 ∈ zs
  · exact c
  · exfalso
    have hp : (zs.filter fun x => inB x 0 99).Perm (sortU zs) := by
      rw [← sort_keys (zs := zs) (by rw [P.len]; exact P.good)]
      exact (List.mergeSort_perm _ _).symm
    have h1 : (zs.filter fun x => inB x 0 99) = zs := List.filter_eq_self.2 fun x hx => by
      obtain ⟨i, hi, e⟩ := mem_nth hx
      rw [P.len] at hi
      have := P.key i hi (by rw [e]; intro e2; exact c (e2 ▸ hx))
      rw [e] at this
      exact inB_true this
    have := hp.length_eq
    rw [h1, P.len] at this
    omega
theorem FairZ.few {T : Tab} {zs : List Int} {S : Int → Prop} (h : FairZ T zs S) : (sortU zs).length < T.zs.length := by
  have := h.count
  omega
theorem FairZ.sort {T : Tab} {zs : List Int} (h : FairZ T zs (fun z => z ∈ T.zs)) : sortU zs = sortU T.zs := sortU_same h.mem

/-- What is visited, by how far keys are away. -/
theorem hits_away {T : Tab} {zs : List Int} (P : PlainZ T zs) (hp : plainB (tab T zs) = true) : hitI (tab T zs) = ((sortU zs).length : Int) + (sumU (awS T zs) T.zs.length : Nat) := by
  obtain ⟨hs, hv, _⟩ := plain_parts hp
  have hperm : (zs.filter fun x => inB x 0 99).Perm (sortU zs) := by
    rw [← sort_keys (zs := zs) (by rw [P.len]; exact P.good)]
    exact (List.mergeSort_perm _ _).symm
  unfold hitI
  rw [if_pos hs]
  show hitsL (tab T zs) (sortU zs) = _
  rw [← hitsL_perm hperm, ← hperm.length_eq]
  have h : ∀ k, k ≤ T.zs.length → hitsL (tab T zs) ((zs.take k).filter fun x => inB x 0 99) = (((zs.take k).filter fun x => inB x 0 99).length : Int) + (sumU (awS T zs) k : Nat) := fun k => by
    induction k with
    | zero => intro _; simp [hitsL, sumU]
    | succ k ih =>
      intro hk
      have hkl : k < zs.length := by rw [P.len]; omega
      have e : nth zs k = zs[k] := by simp [nth, List.getElem?_eq_getElem hkl]
      rw [List.take_succ_eq_append_getElem hkl, List.filter_append, ← e, sumU_succ]
      have hi := ih (by omega)
      by_cases c : nth zs k = -1
      · rw [c]
        simp only [awS, c, if_true]
        have : (List.filter (fun x => inB x 0 99) [(-1 : Int)]) = [] := by decide
        rw [this, List.append_nil, hi]
        simp
      · have hkk := P.key k (by omega) c
        have hb := inB_true hkk
        have v := vis_at (T := T) (zs := zs) hs P.len (i := k) (by omega) hkk.1
        have hvo : visOf (tab T zs) (nth zs k) = ((awN T zs k + 1 : Nat) : Int) := by
          simp only [visOf, hv, hb, Bool.and_self, if_true]
          rw [v]
        have hf1 : (List.filter (fun x => inB x 0 99) [nth zs k]) = [nth zs k] := by simp [hb]
        rw [hf1, hitsL_snoc, hi, hvo]
        simp only [awS, c, if_false, List.length_append, List.length_cons, List.length_nil]
        omega
  have := h T.zs.length (Nat.le_refl _)
  rw [← P.len, List.take_length, P.len] at this
  exact this

/-- What FnFairHits asks. -/
structure FairHits (X Y : Tab) (n : Nat) : Prop where
  lenX : X.zs.length = n
  lenY : Y.zs.length = n
  top : n ≤ 16
  miss : ∀ i : Nat, i < n → missI X i = missI Y i ∧ fmissI X i ≤ missI Y i
  hits : hitI X = hitI Y
  most : mostAway X ≤ mostAway Y
theorem fairhits_says {T : Tab} (hs : soundB T = true) (ok : fogOk T = true) : FairHits (fallT (freeG T) (keysG T)) (cleanT T) T.zs.length := by
  have hv := (sound_all.1 hs).1
  obtain ⟨⟨l1, l2⟩, _⟩ := valid_facts hv
  obtain ⟨xs, ex, X⟩ := fog_says hv ok
  obtain ⟨ys, ey, hp, hl, hk⟩ := clean_row hs
  have Q := plainZ hp hl
  have P := X.plain
  have hsx := X.sort
  have hxm : -1 ∈ xs := (fair_parts X.fair).2.1
  have hym : -1 ∈ ys := plain_free Q (by rw [hk, ← hsx]; exact X.few)
  have hkk : sortU xs = sortU ys := by rw [hsx, hk]
  rw [ex, ey]
  refine ⟨X.len, hl, l2, fun i hi => ?_, ?_, most_le X.fair P Q hym hkk⟩
  · have hmn : missN (tab T xs) i = missN (tab T ys) i := by
      have e1 : (tab T xs).zs.length = T.zs.length := X.len
      have e2 : (tab T ys).zs.length = T.zs.length := hl
      have : freeAt (tab T xs) i = freeAt (tab T ys) i := funext fun d => by
        have s1 : stepS (tab T xs) i d = stepS T i d := by simp [stepS, tab, X.len]
        have s2 : stepS (tab T ys) i d = stepS T i d := by simp [stepS, tab, hl]
        unfold freeAt
        rw [s1, s2]
        have ho := occ_same P Q hxm hym hkk (stepS_lt (T := T) l1 i d)
        show (nth xs (stepS T i d) == -1) = (nth ys (stepS T i d) == -1)
        rw [Bool.eq_iff_iff, beq_iff_eq, beq_iff_eq]
        exact ho
      unfold missN
      rw [this, e1, e2]
    have b1 : inB (i : Int) 0 ((tab T xs).zs.length - 1) = true := inB_true (by show 0 ≤ (i : Int) ∧ (i : Int) ≤ (xs.length : Int) - 1; rw [X.len]; omega)
    have b2 : inB (i : Int) 0 ((tab T ys).zs.length - 1) = true := inB_true (by show 0 ≤ (i : Int) ∧ (i : Int) ≤ (ys.length : Int) - 1; rw [hl]; omega)
    have hle := fmiss_le (T := tab T xs) i
    simp only [missI, fmissI, X.val, Q.val, X.fair, b1, b2, Bool.and_self, if_true, Int.toNat_natCast]
    omega
  · rw [hits_away P (fair_parts X.fair).1, hits_away Q hp, hkk, tot_same P Q hxm hym hkk]

end Go.Proofs.YtkdkdmjhhgllgaaGreatDoor

namespace Go.Proofs.YtkdkdmjhhgllgaaGreatDoor

theorem keysB_sub {ks ls : List Int} (h : keysB ks = true) (hl : ls.length ≤ ks.length) (hs : ∀ z, z ∈ ls → z ∈ ks) : keysB ls = true := by
  unfold keysB at h ⊢
  simp only [Bool.and_eq_true, decide_eq_true_eq] at h ⊢
  refine ⟨by omega, ?_⟩
  rw [List.all_eq_true] at *
  exact fun z hz => h.2 z (hs z hz)

/-- The same keys in any order, and some of them only. -/
theorem fall_sub {T : Tab} {ks ls : List Int} (h : fallOk T ks = true) (hl : ls.length ≤ ks.length) (hs : ∀ z, z ∈ ls → z ∈ ks) : fallOk T ls = true := by
  obtain ⟨hf, hk, zs, e, Z⟩ := fall_says h
  exact fall_room hf (keysB_sub hk hl hs) Z (fun _ _ _ hz => .inl hz) (fun z hz => .inr (hs z hz))
theorem fall_same {T : Tab} {ks ls : List Int} (h : fallOk T ks = true) (hl : ls.length ≤ ks.length) (hs : ∀ z, z ∈ ls ↔ z ∈ ks) : fallOk T ls = true ∧ fallT T ls = fallT T ks := by
  have h2 := fall_sub h hl fun z hz => (hs z).1 hz
  obtain ⟨_, _, zs, e, Z⟩ := fall_says h
  obtain ⟨_, _, ys, e2, Y⟩ := fall_says h2
  refine ⟨h2, ?_⟩
  rw [e, e2, Y.uniq Z fun z _ _ => by rw [hs z]]
theorem fall_back {T : Tab} {ks : List Int} (h : fallOk T ks = true) : fallOk T ks.reverse = true ∧ fallT T ks.reverse = fallT T ks :=
  fall_same h (by simp) fun z => List.mem_reverse
theorem fall_fairB {T : Tab} {ks : List Int} (h : fallOk T ks = true) : fairB (fallT T ks) = true := by
  obtain ⟨_, _, zs, e, Z⟩ := fall_says h
  rw [e]; exact Z.fair
theorem fall_found {T : Tab} {ks : List Int} (h : fallOk T ks = true) {k : Int} (hk : k ∈ ks) : 0 ≤ findOf (fallT T ks) k := by
  obtain ⟨_, hb, zs, e, Z⟩ := fall_says h
  obtain ⟨i, hi, e2⟩ := mem_nth hk
  obtain ⟨k0, k9⟩ := keysB_nth hb hi
  rw [e2] at k0 k9
  rw [e]
  unfold findOf
  rw [if_pos (by rw [Z.val, inB_true ⟨k0, k9⟩]; rfl)]
  exact (Z.found k0 k9).2 (.inr hk)
/-- Two lists of keys, one behind the other. -/
theorem fall_parts {T : Tab} {ks : List Int} (k : Nat) (h : fallOk T ks = true) : fallOk T (ks.drop k) = true ∧ fallOk (fallT T (ks.drop k)) (ks.take k) = true ∧ fallT (fallT T (ks.drop k)) (ks.take k) = fallT T ks := by
  have h1 := fall_sub h (ls := ks.drop k) (by simp) fun z hz => List.mem_of_mem_drop hz
  obtain ⟨_, hb, zs, e, Z⟩ := fall_says h
  obtain ⟨_, _, ys, e1, Y⟩ := fall_says h1
  have hY : ys.length = T.zs.length := Y.len
  have Z2 : FairZ (tab T ys) zs (fun z => z ∈ T.zs ∨ z ∈ ks) := ⟨Z.fair, by show zs.length = ys.length; rw [hY]; exact Z.len, Z.mem⟩
  have h2 : fallOk (tab T ys) (ks.take k) = true := fall_room Y.fair (keysB_sub hb (by simp; omega) fun z hz => List.mem_of_mem_take hz) Z2 (fun z h0 h9 hz => ((Y.mem z h0 h9).1 hz).imp id List.mem_of_mem_drop) (fun z hz => .inr (List.mem_of_mem_take hz))
  obtain ⟨_, _, xs, e2, X⟩ := fall_says h2
  refine ⟨h1, by rw [e1]; exact h2, ?_⟩
  rw [e1, e2, e]
  show tab T xs = tab T zs
  rw [X.uniq Z2 fun z h0 h9 => ?_]
  have hm : (z ∈ (tab T ys).zs) ↔ (z ∈ T.zs ∨ z ∈ ks.drop k) := Y.mem z h0 h9
  rw [hm, or_assoc]
  have : z ∈ ks ↔ z ∈ ks.drop k ∨ z ∈ ks.take k := by
    conv => lhs; rw [← List.take_append_drop k ks]
    rw [List.mem_append]; exact or_comm
  rw [this]

end Go.Proofs.YtkdkdmjhhgllgaaGreatDoor

namespace Go.Proofs.YtkdkdmjhhgllgaaGreatDoor
open Go.RowKit

variable {F : Fence} {n : Nat} {P : Program}

/-- What such an iterator promises: gs is the block that it writes; what lies below B it finds behind each round as it left it. -/
def SeqWrites (F : Fence) (n : Nat) (P : Program) (gf : Nat) (lb : Array Value) (gs B N : Nat) (S : List Int → World → Prop) (w : World) : Prop :=
  ∀ (l : Nat) (J : List Int → World → Prop) (W : World), Below B w W →
    (∀ s A o v, J s A → J s (A.setCell ⟨gs, o, none⟩ v)) → (∀ s A A', J s A → Below A.heap.size A A' → J s A') →
    (∀ pre x W1, J pre W1 → pre.length < N → YieldAt F (n - 1) P l #[.int .i64 x] W1 fun e W' => e = .returned (.bool true) ∧ J (pre ++ [x]) W' ∧ Below B W1 W') →
    J [] W →
    CallsIn F n P gf (#[.func (.yield l) #[] #[]] ++ lb) W fun e W' => (∃ v, e = .returned v) ∧ ∃ xs, xs.length ≤ N ∧ S xs W' ∧ J xs W'

theorem below_putObj {B : Nat} {A : World} {l : Nat} (hl : B ≤ l) (o : Obj) : Below B A (A.putObj l o) :=
  ⟨rfl, rfl, rfl, by simp, fun k hk => World.putObj_heap_other (by omega)⟩
theorem heap_of_below {A A' : World} (h : Below A.heap.size A A') {k : Nat} {o : Obj} (hk : A.heap[k]? = some o) : A'.heap[k]? = some o :=
  (h.block k (Array.getElem?_eq_some_iff.1 hk).1).trans hk
theorem heap_of_set {A : World} {p : Addr} {v : Value} {k : Nat} {o : Obj} (hk : A.heap[k]? = some o) (hne : k ≠ p.block) : (A.setCell p v).heap[k]? = some o :=
  (Below.heap_setCell A p v k hne).trans hk

set_option maxHeartbeats 1000000 in
theorem rangeW {g : Operand} {ps : Array Tmp} {assign body : Code} {Q : Exit → Act → World → Prop} {a : Act} {w : World}
    (hro : F.round = none) (h1 : 1 ≤ n) {gf : Nat} {lb : Array Value} (hg : a.eval g = .func (.func gf) #[] lb) (hFg : F.fn gf) (eg : ∀ args w, (callFunc gf args).run P w = .ok (.enter gf args) w)
    {gs B N : Nat} {S : List Int → World → Prop} {w0 : World} (hseq : SeqWrites F (n - 1) P gf lb gs B N S w0) (hb0 : Below B w0 w) (hB : B ≤ w.heap.size) (hgs : gs < B) (hps : ps.size = 1)
    (I : List Int → World → Prop) (hI1 : ∀ s A o v, I s A → I s (A.setCell ⟨gs, o, none⟩ v)) (hI2 : ∀ s A A', I s A → Below A.heap.size A A' → I s A')
    (hI3 : ∀ s A l o o', I s A → w.heap.size ≤ l → A.heap[l]? = some o → o.isCells = false → I s (A.putObj l o'))
    (hS : ∀ s A A', S s A → A'.heap[gs]? = A.heap[gs]? → A.heap.size ≤ A'.heap.size → S s A')
    (h0 : I [] w) (a₁ : Int → Act)
    (hassign : ∀ (l : Nat) (x : Int) (W : World) (K : Act → World → Prop), K (a₁ x) W →
      assign.wpIn (F.inRound l) (n - 1 - 1) P (Exit.then K (fun _ _ _ => False)) { tmps := (ps.zip #[Value.int .i64 x]).foldl (fun t (p, v) => t.setIfInBounds p v) a.tmps, defers := [] } W)
    (hbody : ∀ (l : Nat) (pre : List Int) (x : Int) (W : World), I pre W → pre.length < N → body.wpIn (F.inRound l) (n - 1 - 1) P (Exit.then (fun _ W' => KeepsOthers W W' ∧ Below B W W' ∧ I (pre ++ [x]) W') (fun _ _ _ => False)) (a₁ x) W)
    (hdone : ∀ (D : Nat) (xs : List Int) (W : World), w.heap.size ≤ D → xs.length ≤ N → S xs W → I xs W → W.heap[D]? = some (.deferred (some [])) → Q .normal { a with defers := { target := .collected D, args := #[] } :: a.defers } W) :
    (Code.rangeFunc g ps assign body).wpIn F n P Q a w := by
  refine wpIn_rangeFunc ?_
  intro fn hfn
  rw [hro]
  -- the record and the block of its rounds' deferred calls
  let rec0 : LoopState → Loop := fun st => { state := st, pending := none, fn, tmps := a.tmps, params := ps, assign, body, defers := w.heap.size }
  obtain ⟨rc, hrc⟩ : ∃ rc, rc = rec0 := ⟨_, rfl⟩
  let W1 : World := (w.alloc (.deferred (some []))).alloc (.loop (rc .ready))
  have hD : w.heap.size ≠ gs := by omega
  have hL : w.heap.size + 1 ≠ gs := by omega
  have hbw : Below w.heap.size w W1 := ((Below.refl _ w).alloc (Nat.le_refl _) _).alloc (by simp) _
  have hl1 : W1.heap[w.heap.size + 1]? = some (.loop (rc .ready)) := by
    have := World.alloc_heap_new (w.alloc (.deferred (some []))) (.loop (rc .ready)); rwa [World.size_alloc] at this
  have hd1 : W1.heap[w.heap.size]? = some (.deferred (some [])) := (Below.heap_alloc _ _ _ (by simp)).trans (World.alloc_heap_new w _)
  refine ⟨w.heap.size + 1, [{ target := .collected w.heap.size, args := #[] }], W1, { target := .fn (.func gf) lb, args := #[.func (.yield (w.heap.size + 1)) #[] #[]] }, W1, gf,
    #[.func (.yield (w.heap.size + 1)) #[] #[]] ++ lb, W1, ?_, ?_, ?_, ?_, fun _ => h1, ?_⟩
  · show _ = Result.ok _ ((w.alloc (.deferred (some []))).alloc (.loop (rc .ready)))
    rw [hrc]; exact run_enterLoop_outer _ _ _ _ _
  · simp only [resolve, hg]
    simp [go_sem]
  · intro f' hf'; simp [Target.leads] at hf'; subst hf'; exact hFg
  · simp [invoke, go_sem, eg]
  · refine (hseq (w.heap.size + 1) (fun s A => I s A ∧ A.heap[w.heap.size + 1]? = some (.loop (rc .ready)) ∧ A.heap[w.heap.size]? = some (.deferred (some []))) W1
      (hb0.trans (hbw.mono hB)) (fun s A o v h => ⟨hI1 s A o v h.1, heap_of_set h.2.1 hL, heap_of_set h.2.2 hD⟩)
      (fun s A A' h hb => ⟨hI2 s A A' h.1 hb, heap_of_below hb h.2.1, heap_of_below hb h.2.2⟩) ?_ ⟨hI2 _ _ _ h0 hbw, hl1, hd1⟩).mono ?_
    · rintro pre x A ⟨hi, hl, hd⟩ hlen
      have hlt : w.heap.size + 1 < A.heap.size := (Array.getElem?_eq_some_iff.1 hl).1
      have hy := run_yield (P := P) (args := #[Value.int .i64 x]) hl (by rw [hrc]; exact hps.symm)
      rw [hrc] at hy
      refine ⟨fn, _, assign, body, hy, roundIn_of_wpIn hfn (hassign _ x A _ ⟨_, run_beginRound hl (by rw [hrc]), ?_⟩)⟩
      have hl2 : (A.putObj (w.heap.size + 1) (.loop (rc .busy))).heap[w.heap.size + 1]? = some (.loop (rc .busy)) := World.putObj_heap_same hlt
      have hd2 : (A.putObj (w.heap.size + 1) (.loop (rc .busy))).heap[w.heap.size]? = some (.deferred (some [])) := (World.putObj_heap_other (by omega)).trans hd
      have hbz : { rc .ready with state := .busy } = rc .busy := by rw [hrc]
      rw [hbz]
      refine wpIn_mono (hbody _ pre x _ (hI3 _ _ _ _ _ hi (by omega) hl rfl) hlen) ?_
      rintro e a3 A3 hp
      cases e with
      | normal =>
        obtain ⟨hk, hbB, hi3⟩ := hp
        have hl3 := hk.same _ _ hl2 rfl
        have hd3 := hk.same _ _ hd2 rfl
        have hend := run_endRound (P := P) none hl3
        have hrz : { rc .busy with state := if (none : Option Code).isNone then .ready else .done, pending := none } = rc .ready := by rw [hrc]; rfl
        rw [hrz] at hend
        refine ⟨_, _, hend, rfl, ⟨hI3 _ _ _ _ _ hi3 (by omega) hl3 rfl, World.putObj_heap_same (Array.getElem?_eq_some_iff.1 hl3).1, (World.putObj_heap_other (by omega)).trans hd3⟩, ?_⟩
        exact ((below_putObj (by omega) _).trans hbB).trans (below_putObj (by omega) _)
      | ret => exact hp.elim
      | exit id => exact hp.elim
      | goto t => exact hp.elim
      | panic ch => exact hp.elim
      | outgrown => exact hp.elim
    · rintro e A ⟨⟨v, rfl⟩, xs, hlx, hs, hi, hl, hd⟩
      have hend := run_endLoop (P := P) hl (by rw [hrc]; simp [rec0])
      have hp : (rc .ready).pending = none := by rw [hrc]
      rw [hp] at hend
      refine ⟨none, _, hend, ?_⟩
      exact hdone _ xs _ (Nat.le_refl _) hlx (hS _ _ _ hs (World.putObj_heap_other (Ne.symm hL)) (by simp)) (hI3 _ _ _ _ _ hi (by omega) hl rfl) ((World.putObj_heap_other (by omega)).trans hd)

end Go.Proofs.YtkdkdmjhhgllgaaGreatDoor

namespace Go.Proofs.YtkdkdmjhhgllgaaGreatDoor

theorem awN_tab {T : Tab} {zs' : List Int} (hl : zs'.length = T.zs.length) (zs : List Int) (i : Nat) : awN (tab T zs') zs i = awN T zs i := by
  unfold awN
  rw [tab_home hl]
  show dst zs'.length _ _ = _
  rw [hl]
theorem shiftF_tab {T : Tab} {zs' : List Int} (hl : zs'.length = T.zs.length) : ∀ (f : Nat) (zs : List Int) (h d : Nat), shiftF (tab T zs') f zs h d = shiftF T f zs h d := by
  intro f
  induction f with
  | zero => intro zs h d; rfl
  | succ f ih =>
    intro zs h d
    have e : (tab T zs').zs.length = T.zs.length := hl
    simp only [shiftF, e, awN_tab hl, ih]
theorem meas_tab {T : Tab} {zs' : List Int} (hl : zs'.length = T.zs.length) (zs : List Int) (d : Nat) : meas (tab T zs') zs d = meas T zs d := by
  have e : (tab T zs').zs.length = T.zs.length := hl
  unfold meas
  rw [e]
  congr 2
  refine sumN_same fun j _ => ?_
  unfold awZ
  rw [awN_tab hl]
theorem shiftZ_tab {T : Tab} {zs' : List Int} (hl : zs'.length = T.zs.length) (zs : List Int) (k : Nat) : shiftZ (tab T zs') zs k = shiftZ T zs k := by
  unfold shiftZ shiftR
  rw [shiftF_tab hl, meas_tab hl]

/-- What one key does to the slots. -/
structure StepYes (T : Tab) (zs : List Int) (x : Int) (k : Nat) : Prop where
  lt : k < T.zs.length
  find : findI (tab T zs) x = k
  ok : shiftOk (tab T zs) x = true
  res : shiftT (tab T zs) x = tab T (stepZ T zs x)
  eq : (shiftZ (tab T zs) zs k).2 = stepZ T zs x
  hole : Hole (tab T zs) ((tab T zs).zs.set k (-1)) k 1
theorem step_says {T : Tab} {zs : List Int} (h : Left T zs) {x : Int} (h0 : 0 ≤ x) (h9 : x ≤ 99) :
    (∃ k, StepYes T zs x k) ∨ (findI (tab T zs) x = -1 ∧ shiftOk (tab T zs) x = false ∧ stepZ T zs x = zs) := by
  have hp := left_plain h
  have hfo : findOf (tab T zs) x = findI (tab T zs) x := by
    unfold findOf
    rw [if_pos (by rw [h.val, inB_true ⟨h0, h9⟩]; rfl)]
  by_cases hf : 0 ≤ findI (tab T zs) x
  · left
    obtain ⟨a, b, e⟩ := left_find h hf
    have hok : shiftOk (tab T zs) x = true := by
      simp only [shiftOk, hp, hfo, Bool.and_true, decide_eq_true_eq]; exact hf
    obtain ⟨k, D⟩ := shift_says hok
    have ek : k = (findI (tab T zs) x).toNat := by
      have := D.find
      rw [hfo] at this
      rw [this]; simp
    have hz : stepZ T zs x = (shiftZ T zs k).2 := by unfold stepZ; rw [if_pos hf, ek]
    have hz2 : (shiftZ (tab T zs) zs k).2 = stepZ T zs x := by rw [shiftZ_tab h.len, hz]
    refine ⟨k, by rw [ek]; exact a, by rw [ek]; exact e.symm, hok, ?_, hz2, D.hole⟩
    unfold shiftT
    rw [if_pos hok, D.find, Int.toNat_natCast]
    show tab (tab T zs) (shiftZ (tab T zs) zs k).2 = _
    rw [hz2]
    rfl
  · right
    have e : findI (tab T zs) x = -1 := (find_no (by omega)).1
    refine ⟨e, ?_, ?_⟩
    · simp only [shiftOk, hp, hfo, Bool.and_true, decide_eq_false_iff_not]; exact hf
    · unfold stepZ; rw [if_neg hf]

end Go.Proofs.YtkdkdmjhhgllgaaGreatDoor

/-
  What the program's search sees, as plain functions of the steps taken. No program.
-/
import Derived.Test.YtohpacgpmkpeaaaDoorFind
namespace Go.Proofs.YtohpacgpmkpeaaaDoor

/-- The first slot of some steps that is free or a tomb, or -1. -/
def lookPl (T : Tab) (h : Nat) (pre : List Nat) : Int := ((pre.find? fun i => decide (nth T.zs (stepS T h i) < 0)).map fun i => (stepS T h i : Int)).getD (-1)
theorem lookPl_nil (T : Tab) (h : Nat) : lookPl T h [] = -1 := rfl
theorem lookPl_keep {T : Tab} {h : Nat} {pre : List Nat} {i : Nat} (hc : 0 ≤ lookPl T h pre ∨ 0 ≤ nth T.zs (stepS T h i)) : lookPl T h (pre ++ [i]) = lookPl T h pre := by
  unfold lookPl at *
  rw [List.find?_append]
  cases hf : pre.find? fun i => decide (nth T.zs (stepS T h i) < 0) with
  | some j => simp
  | none =>
    rcases hc with hc | hc
    · rw [hf] at hc; simp at hc
    · have : ¬ nth T.zs (stepS T h i) < 0 := by omega
      simp [this]
theorem lookPl_new {T : Tab} {h : Nat} {pre : List Nat} {i : Nat} (h1 : lookPl T h pre < 0) (h2 : nth T.zs (stepS T h i) < 0) : lookPl T h (pre ++ [i]) = stepS T h i := by
  unfold lookPl at *
  rw [List.find?_append]
  cases hf : pre.find? fun i => decide (nth T.zs (stepS T h i) < 0) with
  | some j => rw [hf] at h1; simp at h1; omega
  | none => simp [h2]
theorem lookPl_bounds {T : Tab} (hn : 1 ≤ T.zs.length) (h : Nat) (pre : List Nat) : -1 ≤ lookPl T h pre ∧ lookPl T h pre < T.zs.length := by
  unfold lookPl
  cases pre.find? fun i => decide (nth T.zs (stepS T h i) < 0) with
  | some j => have := stepS_lt hn h j; simp; omega
  | none => simp; omega
theorem firstLow_way (T : Tab) (h k : Nat) : firstLow T.zs (wayTo T h k) = lookPl T h (List.range k) := by
  unfold firstLow wayTo lookPl
  rw [List.find?_map]
  congr 2

/-- No step of these stops. -/
def Free' (T : Tab) (key : Int) (h : Nat) (pre : List Nat) : Prop := ∀ i, i ∈ pre → stopAt T key h i = false
theorem Free'.nil (T : Tab) (key : Int) (h : Nat) : Free' T key h [] := fun _ h => (by cases h)
theorem Free'.snoc {T : Tab} {key : Int} {h : Nat} {pre : List Nat} {i : Nat} (hp : Free' T key h pre) (hi : stopAt T key h i = false) : Free' T key h (pre ++ [i]) := by
  intro j hj
  rcases List.mem_append.1 hj with h1 | h1
  · exact hp j h1
  · obtain rfl := List.mem_singleton.1 h1; exact hi

theorem range_snoc {k : Nat} {pre : List Nat} {x : Nat} (h : List.range k = pre ++ [x]) : k = x + 1 ∧ pre = List.range x := by
  cases k with
  | zero => simp at h
  | succ k =>
    rw [List.range_succ] at h
    obtain ⟨h1, h2⟩ := List.append_inj' h rfl
    simp at h2
    subst h2
    exact ⟨rfl, h1.symm⟩

/-- What the search has found where it stops at the last of some steps. -/
theorem look_stop {T : Tab} {key : Int} {h k x : Nat} {pre : List Nat} (hh : homeN T key = h) (hk : k ≤ T.zs.length) (he : List.range k = pre ++ [x]) (hf : Free' T key h pre) (hs : stopAt T key h x = true) :
    visN T key (homeN T key) = (pre ++ [x]).length ∧ lastOf T key = stepS T h x ∧ wayOf T key = wayTo T h k ∧ List.range k = pre ++ [x] := by
  obtain ⟨rfl, rfl⟩ := range_snoc he
  have hv : visN T key h = x + 1 := visN_stop (by omega) (fun j hj => hf j (List.mem_range.2 hj)) hs
  subst hh
  refine ⟨by rw [hv]; simp, by rw [lastOf, hv]; rfl, by rw [wayOf, hv], he⟩
theorem look_found {T : Tab} {key : Int} {h k x : Nat} {pre : List Nat} (hh : homeN T key = h) (hk : k ≤ T.zs.length) (he : List.range k = pre ++ [x]) (hf : Free' T key h pre) (hs : nth T.zs (stepS T h x) = key) :
    visN T key (homeN T key) = (pre ++ [x]).length ∧ findI T key = stepS T h x := by
  obtain ⟨h1, h2, _, _⟩ := look_stop hh hk he hf (by simp [stopAt, hs])
  exact ⟨h1, by rw [findI, h2, if_pos hs]⟩
theorem look_free {T : Tab} {key : Int} {h k x : Nat} {pre : List Nat} (h0 : 0 ≤ key) (hh : homeN T key = h) (hk : k ≤ T.zs.length) (he : List.range k = pre ++ [x]) (hf : Free' T key h pre) (hs : nth T.zs (stepS T h x) = -1) :
    visN T key (homeN T key) = (pre ++ [x]).length ∧ findI T key = -1 ∧ firstLow T.zs (wayOf T key) = lookPl T h (pre ++ [x]) := by
  obtain ⟨h1, h2, h3, h4⟩ := look_stop hh hk he hf (by simp [stopAt, hs])
  refine ⟨h1, by rw [findI, h2, hs, if_neg (by omega)], ?_⟩
  rw [h3, firstLow_way, h4]
theorem look_none {T : Tab} {key : Int} {h : Nat} {pre : List Nat} (hn : 1 ≤ T.zs.length) (hh : homeN T key = h) (he : pre = List.range T.zs.length) (hf : Free' T key h pre) :
    visN T key (homeN T key) = pre.length ∧ findI T key = -1 ∧ firstLow T.zs (wayOf T key) = lookPl T h pre := by
  subst he
  have hv : visN T key h = T.zs.length := visN_all fun j hj => hf j (List.mem_range.2 hj)
  subst hh
  refine ⟨by rw [hv]; simp, ?_, by rw [wayOf, hv, firstLow_way]⟩
  have h2 : lastOf T key = stepS T (homeN T key) (T.zs.length - 1) := by rw [lastOf, hv]
  have := hf (T.zs.length - 1) (List.mem_range.2 (by omega))
  simp only [stopAt, Bool.or_eq_false_iff, beq_eq_false_iff_ne, ne_eq] at this
  rw [findI, h2, if_neg this.2]

end Go.Proofs.YtohpacgpmkpeaaaDoor

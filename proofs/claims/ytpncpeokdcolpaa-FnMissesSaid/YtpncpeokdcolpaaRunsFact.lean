/-
  What the laws of runs ask of the runs of a valid table. No walk.
-/
import Derived.Test.YtpncpeokdcolpaaRunsW
import Derived.Test.YtpncpeokdcolpaaRunLawM
namespace Go.Proofs.Ytpncpeokdcolpaa
open Go.RowKit

theorem flatR_at {rs : List (Nat × Nat)} {j p q : Nat} (h : rs[j]? = some (p, q)) : nth (flatR rs) (j * 2) = p ∧ nth (flatR rs) (j * 2 + 1) = q := by
  obtain ⟨c1, c2⟩ := cellsR_at h
  rw [cellsR_flat, List.getElem?_map] at c1 c2
  constructor
  · cases h1 : (flatR rs)[j * 2]? with
    | none => rw [h1] at c1; simp at c1
    | some x => rw [h1] at c1; simp at c1; simp [nth, h1, c1]
  · cases h1 : (flatR rs)[j * 2 + 1]? with
    | none => rw [h1] at c2; simp at c2
    | some x => rw [h1] at c2; simp at c2; simp [nth, h1, c2]

def sizeTo (rs : List (Nat × Nat)) (j : Nat) : Nat := ((rs.take j).map Prod.snd).sum
theorem sizeTo_succ {rs : List (Nat × Nat)} {j p q : Nat} (h : rs[j]? = some (p, q)) : sizeTo rs (j + 1) = sizeTo rs j + q := by
  simp [sizeTo, List.take_add_one, h]

/-- What the law asks of the runs of a valid table. -/
structure RunsFacts (T : Tab) (rs : List (Nat × Nat)) : Prop where
  len : rs.length ≤ 16
  n1 : 1 ≤ T.zs.length
  n2 : T.zs.length ≤ 16
  each : ∀ j p q : Nat, rs[j]? = some (p, q) → p < 16 ∧ 1 ≤ q ∧ q ≤ 16
  ord : ∀ j p q p' q' : Nat, rs[j]? = some (p, q) → rs[j + 1]? = some (p', q') → p < p'
  sum : (sizeTo rs rs.length : Int) = countK T + countT T
  free : (sizeTo rs rs.length : Int) + countF T = T.zs.length
  few : (rs.length : Int) ≤ max (countF T) 1
  c : 0 ≤ countK T ∧ 0 ≤ countT T ∧ 0 ≤ countF T ∧ countK T ≤ 16 ∧ countT T ≤ 16 ∧ countF T ≤ 16
theorem runs_facts {T : Tab} (hv : validB T = true) : RunsFacts T (runsL T) := by
  obtain ⟨⟨l1, l2⟩, _⟩ := valid_facts hv
  have ha := runs_all hv
  obtain ⟨ho, hp⟩ := runs_order hv
  have hl := runs_len l1
  have e1 : sizeTo (runsL T) (runsL T).length = ((runsL T).map Prod.snd).sum := by rw [sizeTo, List.take_length]
  have hall := cnt_all T.zs
  have hc : countK T = cnt keyP T.zs T.zs.length ∧ countT T = cnt tombP T.zs T.zs.length ∧ countF T = cnt freeP T.zs T.zs.length := by simp [countK, countT, countF, hv]
  refine ⟨by omega, l1, l2, fun j p q h => ?_, fun j p q p' q' h h' => ?_, by rw [e1]; exact ha.1, by rw [e1, ha.1]; omega, ha.2, by omega⟩
  · have hm := List.mem_of_getElem? h
    have h1 := runs_lt l1 hm
    have h2 := hp _ hm
    simp only at h1 h2
    omega
  · obtain ⟨i1, e1⟩ := List.getElem?_eq_some_iff.1 h
    obtain ⟨i2, e2⟩ := List.getElem?_eq_some_iff.1 h'
    have := (List.pairwise_iff_getElem.1 ho) j (j + 1) i1 i2 (by omega)
    rw [e1, e2] at this
    exact this

end Go.Proofs.Ytpncpeokdcolpaa

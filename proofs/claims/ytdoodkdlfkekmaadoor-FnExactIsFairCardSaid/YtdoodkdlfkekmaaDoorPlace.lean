/-
  PlaceFor of the model.
-/
import Derived.Test.YtdoodkdlfkekmaaDoorFindS
namespace Go.Proofs.YtdoodkdlfkekmaaDoor
open Go.RowKit

theorem firstLow_hit {zs way : List Int} {k : Nat} {v : Int} (hk : k < way.length) (hf : ∀ i, i < k → ¬ nth zs (nth way i).toNat < 0) (hv : nth way k = v) (h : nth zs v.toNat < 0) : firstLow zs way = v := by
  induction way generalizing k with
  | nil => simp at hk
  | cons x way ih =>
    unfold firstLow
    cases k with
    | zero =>
      have : x = v := by simpa [nth] using hv
      subst this
      rw [List.find?_cons_of_pos (by simpa using h)]
      rfl
    | succ k =>
      have h0 := hf 0 (Nat.succ_pos k)
      rw [List.find?_cons_of_neg (by simpa [nth] using h0)]
      exact ih (k := k) (by simpa using hk) (fun i hi => by simpa [nth] using hf (i + 1) (by omega)) (by simpa [nth] using hv)

theorem firstLow_none {zs way : List Int} (hf : ∀ i, i < way.length → ¬ nth zs (nth way i).toNat < 0) : firstLow zs way = -1 := by
  induction way with
  | nil => rfl
  | cons x way ih =>
    unfold firstLow
    have h0 := hf 0 (by simp)
    rw [List.find?_cons_of_neg (by simpa [nth] using h0)]
    exact ih (fun i hi => by simpa [nth] using hf (i + 1) (by simp; omega))

theorem way_nth (T : Tab) (hv : validB T = true) (key : Int) {j : Nat} (hj : j < (wayOf T key).length) : ∃ k : Nat, nth (wayOf T key) j = (k : Int) ∧ k < T.zs.length := by
  obtain ⟨⟨l1, _⟩, _⟩ := valid_facts hv
  rw [wayOf, wayTo_len] at hj
  exact ⟨_, wayTo_nth hj, stepS_lt l1 _ _⟩

theorem placeI_no {T : Tab} {key : Int} (h : (validB T && inB key 0 99) = false ∨ 0 ≤ findI T key) : placeI T key = -1 := by
  unfold placeI
  rcases h with h | h
  · simp [h]
  · simp only [show ¬ findI T key < 0 by omega, decide_false, Bool.and_false]; rfl

theorem placeI_yes {T : Tab} {key : Int} (h : (validB T && inB key 0 99) = true) (h2 : findI T key < 0) : placeI T key = firstLow T.zs (wayOf T key) := by
  unfold placeI
  simp [h, h2]

end Go.Proofs.YtdoodkdlfkekmaaDoor

/-
  RunAt of the model.
-/
import Derived.Test.YtblkafmamnimjaaGreatDoorRunsOf
import Derived.Test.YtblkafmamnimjaaGreatDoorAway
namespace Go.Proofs.YtblkafmamnimjaaGreatDoor
open Go.RowKit

theorem cellsR_at {rs : List (Nat × Nat)} {j : Nat} {x y : Nat} (h : rs[j]? = some (x, y)) : (cellsR rs)[j * 2]? = some (.int .i64 x) ∧ (cellsR rs)[j * 2 + 1]? = some (.int .i64 y) := by
  induction rs generalizing j with
  | nil => simp at h
  | cons r rs ih =>
    have e : cellsR (r :: rs) = .int .i64 r.1 :: .int .i64 r.2 :: cellsR rs := by simp [cellsR]
    rw [e]
    cases j with
    | zero => simp at h; subst h; simp
    | succ j =>
      have h2 := ih (j := j) (by simpa using h)
      rw [show (j + 1) * 2 = j * 2 + 1 + 1 by omega]
      simpa using h2

theorem runs_at {w : World} {base : Nat} {e : TypeId} {a : Option Addr} {n c : Nat} {rs : List (Nat × Nat)} (h : w.ownsRow base e 2 (.slice a n c) n (cellsR rs)) {j x y : Nat} (hj : j < n) (hx : rs[j]? = some (x, y)) :
    ∃ g, a = some ⟨g, 0, none⟩ ∧ w.cell? ⟨g, j * 2, none⟩ = some (.int .i64 x) ∧ w.cell? ⟨g, j * 2 + 1, none⟩ = some (.int .i64 y) := by
  rcases h.2 with ⟨hv, h0⟩ | ⟨g, cap, cur, hv, hg, hh, _, _, _, ht⟩
  · omega
  · cases hv
    obtain ⟨c1, c2⟩ := cellsR_at hx
    have key : ∀ (i : Nat) (v : Value), i < n * 2 → (cellsR rs)[i]? = some v → cur[i]? = some v := by
      intro i v hi hv
      have h1 : (cur.toList.take (n * 2))[i]? = (cellsR rs)[i]? := by rw [ht]
      rw [List.getElem?_take, if_pos hi, hv] at h1
      simpa using h1
    exact ⟨g, rfl, by simp [World.cell?, hh, key _ _ (by omega) c1], by simp [World.cell?, hh, key _ _ (by omega) c2]⟩

/-- RunAt of the document. -/
def runAt (T : Tab) (slot : Int) : Option (Nat × Nat) := if validB T && inB slot 0 (T.zs.length - 1) then (runsL T).find? (fun r => decide ((slot - (r.1 : Int)) % T.zs.length < (r.2 : Int))) else none

theorem runs_lt {T : Tab} (hn : 1 ≤ T.zs.length) {r : Nat × Nat} (h : r ∈ runsL T) : r.1 < T.zs.length ∧ r.2 ≤ T.zs.length := by
  unfold runsL at h
  split at h
  · simp at h; subst h; exact ⟨by show 0 < _; omega, Nat.le_refl _⟩
  · unfold runsTo at h
    obtain ⟨i, hi, rfl⟩ := List.mem_map.1 h
    have := (List.mem_filter.1 hi).1
    exact ⟨by simpa using this, goN_le _ _⟩

theorem runs_len {T : Tab} (hn : 1 ≤ T.zs.length) : (runsL T).length ≤ T.zs.length := by
  unfold runsL
  split
  · simpa using hn
  · exact runsTo_len _ _

theorem find_hit {α : Type} {p : α → Bool} {l : List α} {j : Nat} {x : α} (hf : ∀ i y, i < j → l[i]? = some y → p y = false) (hx : l[j]? = some x) (hp : p x = true) : l.find? p = some x := by
  induction l generalizing j with
  | nil => simp at hx
  | cons z l ih =>
    cases j with
    | zero => simp at hx; subst hx; simp [hp]
    | succ j =>
      have h0 := hf 0 z (Nat.succ_pos j) rfl
      rw [List.find?_cons_of_neg (by simp [h0])]
      exact ih (j := j) (fun i y hi hy => hf (i + 1) y (by omega) (by simpa using hy)) (by simpa using hx)

theorem find_miss {α : Type} {p : α → Bool} {l : List α} (hf : ∀ i y, i < l.length → l[i]? = some y → p y = false) : l.find? p = none := by
  rw [List.find?_eq_none]
  intro x hx
  obtain ⟨i, hi⟩ := List.getElem?_of_mem hx
  simp [hf i x (List.getElem?_eq_some_iff.1 hi).1 hi]

theorem ownsRow_below {w w' : World} {base : Nat} {e : TypeId} {size : Nat} {v : Value} {n : Nat} {xs : List Value} (h : w.ownsRow base e size v n xs) (hb : Below w.heap.size w w') : w'.ownsRow base e size v n xs := by
  refine ⟨h.1, ?_⟩
  rcases h.2 with h2 | ⟨g, cap, cur, hv, hg, hh, rest⟩
  · exact .inl h2
  · exact .inr ⟨g, cap, cur, hv, hg, (hb.block g (Array.getElem?_eq_some_iff.1 hh).1).trans hh, rest⟩

/-- What RunAt answers. -/
def runV (o : Option (Nat × Nat)) : Value := .tuple #[.agg #[.int .i64 (o.getD (0, 0)).1, .int .i64 (o.getD (0, 0)).2], .bool o.isSome]

end Go.Proofs.YtblkafmamnimjaaGreatDoor

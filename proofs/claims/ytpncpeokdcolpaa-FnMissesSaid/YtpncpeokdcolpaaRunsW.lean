/-
  The law files' own helpers on slices of runs: eqRun, eqRunS, markRunS, heldRunS. A slice of n runs is 2 n integers.
-/
import Derived.Test.YtpncpeokdcolpaaIntsW
import Derived.Test.YtpncpeokdcolpaaRunsOfI
namespace Go.Proofs.Ytpncpeokdcolpaa
open Go.RowKit

/-- The integers of some runs. -/
def flatR (rs : List (Nat × Nat)) : List Int := (rs.map fun r => [(r.1 : Int), (r.2 : Int)]).flatten
theorem flatR_len (rs : List (Nat × Nat)) : (flatR rs).length = rs.length * 2 := by
  induction rs with
  | nil => rfl
  | cons r rs ih => simp [flatR] at ih ⊢; omega
theorem cellsR_flat (rs : List (Nat × Nat)) : cellsR rs = (flatR rs).map (Value.int .i64) := by
  simp [cellsR, flatR, List.map_flatten, Function.comp_def]

/-- What a row of runs owns. -/
theorem runs_own {w : World} {base : Nat} {a : Option Addr} {c : Nat} {rs : List (Nat × Nat)} (h : w.ownsRow base 37 2 (.slice a rs.length c) rs.length (cellsR rs)) : OwnInts w base a (flatR rs) := by
  refine ⟨fun p hp => ?_, fun h0 => ?_⟩
  · have := h.lt p.block (by rw [hp]; rfl)
    exact this
  · rcases h.2 with ⟨e, e0⟩ | ⟨g, cap, cur, e, hb, hg, _, _, hs, ht⟩
    · rw [flatR_len, e0] at h0; omega
    · cases e
      have key : ∀ j, j < (flatR rs).length → cur[j]? = some (.int .i64 (nth (flatR rs) j)) := by
        intro j hj
        have h1 : (cur.toList.take (rs.length * 2))[j]? = (cellsR rs)[j]? := by rw [ht]
        rw [List.getElem?_take, if_pos (by rw [flatR_len] at hj; exact hj), cellsR_flat, List.getElem?_map, List.getElem?_eq_getElem hj] at h1
        simpa [nth, List.getElem?_eq_getElem hj] using h1
      exact ⟨g, 0, rfl, fun j hj => by rw [Nat.zero_add]; simp [World.cell?, hg, key j hj], fun j hj => by simp [World.frozen?, hg]⟩

theorem IntsAt.two {w : World} {a : Option Addr} {zs : List Int} {n : Nat} (h : IntsAt w a zs) (hn : zs.length = n * 2) {j : Nat} (hj : j < n) :
    ∃ b o x y, a = some ⟨b, o, none⟩ ∧ w.cell? ⟨b, o + j * 2, none⟩ = some (.int .i64 x) ∧ w.cell? ⟨b, o + j * 2 + 1, none⟩ = some (.int .i64 y) ∧ Hid (nth zs (j * 2) = x ∧ nth zs (j * 2 + 1) = y) :=
  let ⟨b, o, e, hc⟩ := h (by omega)
  ⟨b, o, _, _, e, hc (j * 2) (by omega), by have := hc (j * 2 + 1) (by omega); rwa [← Nat.add_assoc] at this, ⟨rfl, rfl⟩⟩

end Go.Proofs.Ytpncpeokdcolpaa

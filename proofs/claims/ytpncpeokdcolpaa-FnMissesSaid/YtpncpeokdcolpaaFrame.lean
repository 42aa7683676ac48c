/-
  How arguments that came in read: slices of integers and of bytes, tables.
-/
import Derived.Test.YtpncpeokdcolpaaBase
import Derived.ProofKit
namespace Go.Proofs.Ytpncpeokdcolpaa
open Go.RowKit

/-- A slice of numbers that came in: nil, or a row of cap cells. -/
def IsRow (k : IntKind) (w : World) (a : Option Addr) (len cap : Nat) (zs : List Int) : Prop :=
  (a = none ∧ len = 0 ∧ cap = 0 ∧ zs = []) ∨
  ∃ x, a = some x ∧ len ≤ cap ∧ cap ≤ maxLen ∧ zs.length = cap ∧ (∀ i, i < zs.length → w.cell? (x.add i) = some (.int k (zs.getD i 0))) ∧ ∀ n ∈ zs, (Lit.int k n).wf = true

/-- The cells at a hold the numbers zs, of kind k. -/
def NumsAt (k : IntKind) (w : World) (a : Option Addr) (zs : List Int) : Prop :=
  0 < zs.length → ∃ b off, a = some ⟨b, off, none⟩ ∧ ∀ j, j < zs.length → w.cell? ⟨b, off + j, none⟩ = some (.int k (zs[j]?.getD 0))

theorem row_nums {k : IntKind} {w : World} {a : Option Addr} {len cap : Nat} {zs : List Int} (h : IsRow k w a len cap zs) :
    ∃ ys : List Int, len = ys.length ∧ NumsAt k w a ys ∧ ys.length ≤ 9223372036854775807 ∧ ∀ x ∈ ys, (Lit.int k x).wf = true := by
  rcases h with ⟨rfl, rfl, rfl, rfl⟩ | ⟨⟨b, off, sp⟩, rfl, hl, hm, hz, hc, hw⟩
  · exact ⟨[], rfl, fun h => (by simp at h), by simp, fun x hx => (by cases hx)⟩
  · refine ⟨zs.take len, by simp; omega, fun h0 => ?_, by unfold maxLen at hm; simp; omega, fun x hx => hw x (List.mem_of_mem_take hx)⟩
    have hlen : 0 < len := by simp at h0; omega
    have h1 := hc 0 (by omega)
    have hsp : sp = none := by
      cases sp with
      | none => rfl
      | some s => simp [Addr.add, World.cell?] at h1; split at h1 <;> simp at h1
    subst hsp
    refine ⟨b, off, rfl, fun j hj => ?_⟩
    have hj' : j < len := by simp at hj; omega
    have h2 := hc j (by omega)
    have e : (⟨b, off, none⟩ : Addr).add j = ⟨b, off + j, none⟩ := by
      unfold Addr.add
      split
      · rename_i h; subst h; rfl
      · rfl
    rw [e] at h2
    rw [h2]
    simp [List.getD, hj']

theorem NumsAt.ints {w : World} {a : Option Addr} {zs : List Int} (h : NumsAt .i64 w a zs) : IntsAt w a zs := h

/-- A table that came in. -/
structure TabIn (w : World) (T : Tab) (a : Option Addr) : Prop where
  at_ : IntsAt w a T.zs
  len : T.zs.length ≤ 9223372036854775807
  t : (Lit.int .i64 T.t).wf = true
  p : (Lit.int .i64 T.p).wf = true
  zs : ∀ x ∈ T.zs, (Lit.int .i64 x).wf = true

end Go.Proofs.Ytpncpeokdcolpaa

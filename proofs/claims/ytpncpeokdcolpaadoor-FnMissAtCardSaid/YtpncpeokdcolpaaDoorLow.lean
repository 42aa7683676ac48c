/-
  More of the lowest functions: frames, new tables, keys.
-/
import Derived.Test.YtpncpeokdcolpaaDoorBase
import Derived.ProofKit
import Derived.RangeFuncBox
import Derived.RangeFuncNested
import Derived.RangeFuncBound
import Derived.RangeFuncCalls
import Derived.RangeFuncLeaves
import Derived.Shelf.Abstract
import Derived.OwnWalkIn
import Derived.TacticsInMore
import Derived.LoopNIn
import Derived.LoopIn
import Derived.Maps.AppendAt
import Derived.Test.YtpncpeokdcolpaaDoorMath
namespace Go.Proofs.YtpncpeokdcolpaaDoor
open Go.RowKit

/-- A slice of numbers that came in: nil, or a row of cap cells. -/
def IsRow (k : IntKind) (w : World) (a : Option Addr) (len cap : Nat) (zs : List Int) : Prop :=
  (a = none ∧ len = 0 ∧ cap = 0 ∧ zs = []) ∨
  ∃ x, a = some x ∧ len ≤ cap ∧ cap ≤ maxLen ∧ zs.length = cap ∧ (∀ i, i < zs.length → w.cell? (x.add i) = some (.int k (zs.getD i 0))) ∧ ∀ n ∈ zs, (Lit.int k n).wf = true

/-- The cells at a hold the numbers zs, of kind k. -/
def NumsAt (k : IntKind) (w : World) (a : Option Addr) (zs : List Int) : Prop :=
  0 < zs.length → ∃ b off, a = some ⟨b, off, none⟩ ∧ ∀ j, j < zs.length → w.cell? ⟨b, off + j, none⟩ = some (.int k (zs[j]?.getD 0))

theorem row_nums {k : IntKind} {w : World} {a : Option Addr} {len cap : Nat} {zs : List Int} (h : IsRow k w a len cap zs) :
    ∃ ys : List Int, len = ys.length ∧ NumsAt k w a ys ∧ ys.length ≤ 9223372036854775807 ∧ ∀ x ∈ ys, (Lit.int k x).wf = true := by
  rcases h with ⟨rfl, rfl, rfl, rfl⟩ | ⟨⟨b, off, sp⟩, rfl, hl, hm, hz, hc, hw⟩
  · exact ⟨[], rfl, fun h => (by simp at h), by simp, fun x hx => (by cases hx)⟩
  · refine ⟨zs.take len, by simp; omega, fun h0 => ?_, by unfold maxLen at hm; simp; omega, fun x hx => hw x (List.mem_of_mem_take hx)⟩
    have hlen : 0 < len := by simp at h0; omega
    have h1 := hc 0 (by omega)
    have hsp : sp = none := by
      cases sp with
      | none => rfl
      | some s => simp [Addr.add, World.cell?] at h1; split at h1 <;> simp at h1
    subst hsp
    refine ⟨b, off, rfl, fun j hj => ?_⟩
    have hj' : j < len := by simp at hj; omega
    have h2 := hc j (by omega)
    have e : (⟨b, off, none⟩ : Addr).add j = ⟨b, off + j, none⟩ := by
      unfold Addr.add
      split
      · rename_i h; subst h; rfl
      · rfl
    rw [e] at h2
    rw [h2]
    simp [List.getD, hj']

theorem NumsAt.ints {w : World} {a : Option Addr} {zs : List Int} (h : NumsAt .i64 w a zs) : IntsAt w a zs := h

/-- A table that came in. -/
structure TabIn (w : World) (T : Tab) (a : Option Addr) : Prop where
  at_ : IntsAt w a T.zs
  len : T.zs.length ≤ 9223372036854775807
  t : (Lit.int .i64 T.t).wf = true
  p : (Lit.int .i64 T.p).wf = true
  zs : ∀ x ∈ T.zs, (Lit.int .i64 x).wf = true

end Go.Proofs.YtpncpeokdcolpaaDoor

namespace Go.Proofs.YtpncpeokdcolpaaDoor
open Go.RowKit Go.Shelf
attribute [local go_sem] Oper.semAt_some

/-- The keys that slots hold, in the order of the slots. -/
def keysL (zs : List Int) : List Int := zs.filter fun x => inB x 0 99
theorem keysL_yes {zs : List Int} {k : Nat} {x : Int} (hk : k < zs.length) (hx : nth zs k = x) (h : inB x 0 99 = true) : keysL (zs.take (k + 1)) = keysL (zs.take k) ++ [x] := by
  have e : zs[k] = x := by simpa [nth, List.getElem?_eq_getElem hk] using hx
  rw [List.take_succ_eq_append_getElem hk, e]
  simp [keysL, List.filter_append, h]
theorem keysL_no {zs : List Int} {k : Nat} {x : Int} (hk : k < zs.length) (hx : nth zs k = x) (h : inB x 0 99 = false) : keysL (zs.take (k + 1)) = keysL (zs.take k) := by
  have e : zs[k] = x := by simpa [nth, List.getElem?_eq_getElem hk] using hx
  rw [List.take_succ_eq_append_getElem hk, e]
  simp [keysL, List.filter_append, h]
theorem keysL_len (zs : List Int) (k : Nat) : (keysL (zs.take k)).length ≤ k := Nat.le_trans (List.length_filter_le _ _) (List.length_take_le _ _)

/-- A block that lies as it lay. -/
def KeepBlock (g : Nat) (A B : World) : Prop := A.heap.size ≤ B.heap.size ∧ B.heap[g]? = A.heap[g]?
theorem KeepBlock.refl (g : Nat) (A : World) : KeepBlock g A A := ⟨Nat.le_refl _, rfl⟩
theorem KeepBlock.trans {g : Nat} {A B C : World} (h : KeepBlock g A B) (k : KeepBlock g B C) : KeepBlock g A C := ⟨Nat.le_trans h.1 k.1, k.2.trans h.2⟩
theorem KeepBlock.alloc {g : Nat} {A B : World} (h : KeepBlock g A B) (hg : g < A.heap.size) (o : Obj) : KeepBlock g A (B.alloc o) := ⟨by have := h.1; simp; omega, (Below.heap_alloc B o g (Nat.lt_of_lt_of_le hg h.1)).trans h.2⟩
theorem KeepBlock.ring {g : Nat} {A B : World} (h : KeepBlock g A B) {T : Tab} (hR : RingAt A g T) : RingAt B g T := fun i hi =>
  ⟨(World.cell?_of_block (a := ⟨g, i * 2, none⟩) h.2).trans (hR i hi).1, (World.cell?_of_block (a := ⟨g, i * 2 + 1, none⟩) h.2).trans (hR i hi).2⟩
theorem KeepBlock.of_below {g : Nat} {A B : World} (h : Below A.heap.size A B) (hg : g < A.heap.size) : KeepBlock g A B := ⟨h.size, h.block g hg⟩

end Go.Proofs.YtpncpeokdcolpaaDoor

namespace Go.Proofs.YtpncpeokdcolpaaDoor
open Go.RowKit
/-- Keys as data that are keys. -/
abbrev KeyB := {x : Int // inB x 0 99 = true}

end Go.Proofs.YtpncpeokdcolpaaDoor

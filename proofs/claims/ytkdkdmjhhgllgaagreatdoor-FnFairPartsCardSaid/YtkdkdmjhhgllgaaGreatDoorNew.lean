/-
  spec.NewTable, and the exact law of NewTable.
-/
import Derived.Test.YtkdkdmjhhgllgaaGreatDoorLow
import Derived.Test.YtkdkdmjhhgllgaaGreatDoorFree
namespace Go.Proofs.YtkdkdmjhhgllgaaGreatDoor
open Go.RowKit
/-- A value that is a table of the call's own: its slots lie in blocks from base on. -/
def TabRes (T : Tab) (ok : Bool) (w : World) (e : Ending) (w' : World) : Prop :=
  ∃ a c, e = .returned (.tuple #[.agg #[.int .i64 T.t, .int .i64 T.p, .slice a T.zs.length c], .bool ok]) ∧ OwnInts w' w.heap.size a T.zs ∧ Below w.heap.size w w'

def newTab (n t p : Int) : Tab := if headB n t p then ⟨t, p, List.replicate n.toNat (-1)⟩ else ⟨0, 0, []⟩
theorem newTab_len (n t p : Int) : (newTab n t p).zs.length ≤ 16 := by
  unfold newTab
  split
  · rename_i h
    simp [headB, inB_iff] at h
    simp; omega
  · simp

theorem NewTable_any (n t p : Int) (w : World) : Calls Tryz.prog 31 #[.int .i64 n, .int .i64 t, .int .i64 p] w (TabRes (newTab n t p) (headB n t p) w) := by
  cases h : headB n t p
  · refine (NewTable_no n t p w h).mono ?_
    rintro e w' ⟨rfl, hb⟩
    refine ⟨none, 0, ?_, ?_, hb⟩
    · simp [newTab, h]
    · simp [newTab, h]; exact OwnInts.nil _ _
  · obtain ⟨h1, h2, h3⟩ := head_size h
    obtain ⟨hn1, hn2⟩ := inB_iff.1 h1
    obtain ⟨m, rfl⟩ : ∃ m : Nat, n = m := ⟨n.toNat, by omega⟩
    refine (NewTable_yes m t p w h1 h2 h3).mono ?_
    rintro e w' ⟨g, rfl, ho, hb⟩
    refine ⟨some ⟨g, 0, none⟩, m, ?_, ?_, hb⟩
    · simp [newTab, h]
    · simp only [newTab, h, if_true, Int.toNat_natCast]; exact ho

end Go.Proofs.YtkdkdmjhhgllgaaGreatDoor

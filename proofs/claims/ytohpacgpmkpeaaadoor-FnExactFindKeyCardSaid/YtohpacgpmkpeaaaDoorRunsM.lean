/-
  Runs as plain functions. No program.
-/
import Derived.Test.YtohpacgpmkpeaaaDoorFind
namespace Go.Proofs.YtohpacgpmkpeaaaDoor

/-- The slot in front of a slot. -/
def prevS (T : Tab) (i : Nat) : Nat := (i + T.zs.length - 1) % T.zs.length
theorem prevS_lt {T : Tab} (hn : 1 ≤ T.zs.length) (i : Nat) : prevS T i < T.zs.length := Nat.mod_lt _ (by omega)
theorem prev_cast {T : Tab} (hn : 1 ≤ T.zs.length) (i : Nat) : ((i : Int) + (T.zs.length : Int) - 1) % (T.zs.length : Int) = (prevS T i : Int) := by
  have : ((i : Int) + (T.zs.length : Int) - 1) = ((i + T.zs.length - 1 : Nat) : Int) := by omega
  rw [this, prevS, Int.natCast_emod]

/-- A run opens at a slot. -/
def startB (T : Tab) (i : Nat) : Bool := (nth T.zs i != -1) && !(decide (1 < T.zs.length) && (nth T.zs (prevS T i) != -1))
/-- How many slots in a row are not free, from a slot on. -/
def sizeFrom (T : Tab) (i : Nat) : Nat := goN (fun j => nth T.zs (stepS T i j) == -1) T.zs.length
def runsTo (T : Tab) (k : Nat) : List (Nat × Nat) := ((List.range k).filter (startB T)).map fun i => (i, sizeFrom T i)
/-- The runs of a valid table. -/
def runsL (T : Tab) : List (Nat × Nat) := if (runsTo T T.zs.length).length = 0 ∧ nth T.zs 0 ≠ -1 then [(0, T.zs.length)] else runsTo T T.zs.length

theorem runsTo_yes {T : Tab} {k : Nat} (h : startB T k = true) : runsTo T (k + 1) = runsTo T k ++ [(k, sizeFrom T k)] := by
  simp [runsTo, List.range_succ, List.filter_append, h]
theorem runsTo_no {T : Tab} {k : Nat} (h : startB T k = false) : runsTo T (k + 1) = runsTo T k := by
  simp [runsTo, List.range_succ, List.filter_append, h]
theorem runsTo_len (T : Tab) (k : Nat) : (runsTo T k).length ≤ k := by
  simp only [runsTo, List.length_map]
  exact Nat.le_trans (List.length_filter_le _ _) (by simp)

end Go.Proofs.YtohpacgpmkpeaaaDoor

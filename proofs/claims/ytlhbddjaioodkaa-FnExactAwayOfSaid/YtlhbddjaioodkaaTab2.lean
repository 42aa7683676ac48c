/-
  More of tables as data: AwayOf, CountSlots, KeysIn, SameTable. No program.
-/
import Derived.Test.YtlhbddjaioodkaaTab
namespace Go.Proofs.Ytlhbddjaioodkaa

/-- AwayOf of the document. -/
def awayOf (T : Tab) (slot : Int) : Int :=
  if validB T && inB slot 0 (T.zs.length - 1) && decide (0 ≤ nth T.zs slot.toNat) then (slot - homeI T (nth T.zs slot.toNat)) % T.zs.length else -1
theorem awayOf_no {T : Tab} {slot : Int} (h : validB T = false ∨ inB slot 0 (T.zs.length - 1) = false ∨ nth T.zs slot.toNat < 0) : -1 = awayOf T slot := by
  unfold awayOf
  rcases h with h | h | h
  · simp [h]
  · simp [h]
  · simp only [show ¬ 0 ≤ nth T.zs slot.toNat by omega, decide_false, Bool.and_false]; rfl
theorem awayOf_yes {T : Tab} {k : Nat} {x : Int} (h : validB T = true) (hk : k < T.zs.length) (hx : nth T.zs k = x) (h0 : 0 ≤ x) : ((k : Int) - homeI T x) % T.zs.length = awayOf T k := by
  have h1 : inB (k : Int) 0 (T.zs.length - 1) = true := inB_true (by omega)
  subst hx
  unfold awayOf
  rw [if_pos (by simp only [h, h1, Int.toNat_natCast, Bool.true_and, decide_eq_true_eq]; exact h0), Int.toNat_natCast]

/-- How many of the first k slots are so. -/
def cnt (p : Int → Bool) (zs : List Int) (k : Nat) : Nat := (zs.take k).countP p
theorem cnt_zero (p : Int → Bool) (zs : List Int) : cnt p zs 0 = 0 := by simp [cnt]
theorem cnt_succ {p : Int → Bool} {zs : List Int} {k : Nat} {x : Int} (hk : k < zs.length) (hx : nth zs k = x) : cnt p zs (k + 1) = cnt p zs k + (if p x then 1 else 0) := by
  have h : zs[k] = x := by simpa [nth, List.getElem?_eq_getElem hk] using hx
  rw [cnt, List.take_succ_eq_append_getElem hk, List.countP_append, h]
  simp [cnt, List.countP_cons]
theorem cnt_le (p : Int → Bool) (zs : List Int) (k : Nat) : cnt p zs k ≤ zs.length := Nat.le_trans List.countP_le_length (by simp; omega)
def keyP (x : Int) : Bool := !(x == -1) && !(x == -2)
def tombP (x : Int) : Bool := x == -2
def freeP (x : Int) : Bool := x == -1
/-- CountSlots of the document. -/
def countK (T : Tab) : Int := if validB T then cnt keyP T.zs T.zs.length else -1
def countT (T : Tab) : Int := if validB T then cnt tombP T.zs T.zs.length else -1
def countF (T : Tab) : Int := if validB T then cnt freeP T.zs T.zs.length else -1

end Go.Proofs.Ytlhbddjaioodkaa

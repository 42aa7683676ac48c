/-
  Finding as plain functions: the slots that are visited for a key. No program.
-/
import Derived.Test.YtohpacgpmkpeaaaDoorSortM
namespace Go.Proofs.YtohpacgpmkpeaaaDoor

/-- The slot to which one comes by i steps from h on. -/
def stepS (T : Tab) (h i : Nat) : Nat := (h + i) % T.zs.length
theorem stepS_lt {T : Tab} (hn : 1 ≤ T.zs.length) (h i : Nat) : stepS T h i < T.zs.length := Nat.mod_lt _ (by omega)

/-- A slot at which one stops who looks for a key. -/
def stopAt (T : Tab) (key : Int) (h i : Nat) : Bool := nth T.zs (stepS T h i) == -1 || nth T.zs (stepS T h i) == key

/-- How many of the first n steps are taken without a stop. -/
def goN (p : Nat → Bool) (n : Nat) : Nat := (List.range n).findIdx p
theorem goN_le (p : Nat → Bool) (n : Nat) : goN p n ≤ n := by
  have := List.findIdx_le_length (p := p) (xs := List.range n)
  simpa [goN] using this
theorem goN_free {p : Nat → Bool} {n j : Nat} (hj : j < goN p n) : p j = false := by
  have h1 := goN_le p n
  have h2 := List.not_of_lt_findIdx (p := p) (xs := List.range n) (i := j) hj
  simpa using h2
theorem goN_stop {p : Nat → Bool} {n : Nat} (h : goN p n < n) : p (goN p n) = true := by
  have h2 := List.findIdx_getElem (p := p) (xs := List.range n) (w := by simpa [goN] using h)
  simpa [goN] using h2
theorem goN_eq {p : Nat → Bool} {n i : Nat} (hi : i < n) (h : ∀ j, j < i → p j = false) (hp : p i = true) : goN p n = i := by
  have h1 := goN_le p n
  rcases Nat.lt_trichotomy (goN p n) i with h2 | h2 | h2
  · have := goN_stop (p := p) (n := n) (by omega)
    rw [h _ h2] at this
    cases this
  · exact h2
  · have := goN_free (p := p) (n := n) h2
    rw [hp] at this
    cases this
theorem goN_all {p : Nat → Bool} {n : Nat} (h : ∀ j, j < n → p j = false) : goN p n = n := by
  have h1 := goN_le p n
  by_cases h2 : goN p n < n
  · have := goN_stop h2
    rw [h _ h2] at this
    cases this
  · omega

/-- How many slots are visited to find a key: the last one included. -/
def visN (T : Tab) (key : Int) (h : Nat) : Nat := min (goN (stopAt T key h) T.zs.length + 1) T.zs.length
theorem visN_stop {T : Tab} {key : Int} {h i : Nat} (hi : i < T.zs.length) (hf : ∀ j, j < i → stopAt T key h j = false) (hp : stopAt T key h i = true) : visN T key h = i + 1 := by
  unfold visN
  rw [goN_eq hi hf hp]
  omega
theorem visN_all {T : Tab} {key : Int} {h : Nat} (hf : ∀ j, j < T.zs.length → stopAt T key h j = false) : visN T key h = T.zs.length := by
  unfold visN
  rw [goN_all hf]
  omega
theorem visN_bounds {T : Tab} (hn : 1 ≤ T.zs.length) (key : Int) (h : Nat) : 1 ≤ visN T key h ∧ visN T key h ≤ T.zs.length := by
  unfold visN
  omega

/-- The slots of the first k steps. -/
def wayTo (T : Tab) (h k : Nat) : List Int := (List.range k).map fun i => (stepS T h i : Int)
theorem wayTo_succ (T : Tab) (h k : Nat) : wayTo T h (k + 1) = wayTo T h k ++ [(stepS T h k : Int)] := by
  simp [wayTo, List.range_succ]
theorem wayTo_len (T : Tab) (h k : Nat) : (wayTo T h k).length = k := by simp [wayTo]
theorem wayTo_nth {T : Tab} {h k i : Nat} (hi : i < k) : nth (wayTo T h k) i = stepS T h i := by
  simp [nth, wayTo, hi]

def homeN (T : Tab) (key : Int) : Nat := (homeI T key).toNat
theorem homeN_eq {T : Tab} (h : validB T = true) (key : Int) : (homeN T key : Int) = homeI T key := by
  have := homeI_bounds h key
  unfold homeN
  omega
theorem homeN_lt {T : Tab} (h : validB T = true) (key : Int) : homeN T key < T.zs.length := by
  have := homeI_bounds h key
  unfold homeN
  omega

/-- The slots that are visited for a key. -/
def wayOf (T : Tab) (key : Int) : List Int := wayTo T (homeN T key) (visN T key (homeN T key))
/-- The last slot that is visited for a key. -/
def lastOf (T : Tab) (key : Int) : Nat := stepS T (homeN T key) (visN T key (homeN T key) - 1)
/-- The slot where a key is found, or -1. -/
def findI (T : Tab) (key : Int) : Int := if nth T.zs (lastOf T key) = key then lastOf T key else -1

/-- FindKey, VisitsFor, LostKeys, IsSound, PlaceFor of the document. -/
def findOf (T : Tab) (key : Int) : Int := if validB T && inB key 0 99 then findI T key else -1
def visOf (T : Tab) (key : Int) : Int := if validB T && inB key 0 99 then visN T key (homeN T key) else -1
def lostOf (T : Tab) : List Int := if validB T then (sortU T.zs).filter (fun k => decide (findI T k < 0)) else []
def soundB (T : Tab) : Bool := validB T && decide (lostOf T = [])
/-- The first slot of a way that is free or a tomb, or -1. -/
def firstLow (zs : List Int) (way : List Int) : Int := ((way.find? fun k => decide (nth zs k.toNat < 0)).getD (-1))
def placeI (T : Tab) (key : Int) : Int := if validB T && inB key 0 99 && decide (findI T key < 0) then firstLow T.zs (wayOf T key) else -1

theorem lastOf_lt {T : Tab} (hn : 1 ≤ T.zs.length) (key : Int) : lastOf T key < T.zs.length := stepS_lt hn _ _
theorem findI_bounds {T : Tab} (hn : 1 ≤ T.zs.length) (key : Int) : -1 ≤ findI T key ∧ findI T key < T.zs.length := by
  have := lastOf_lt hn key
  unfold findI
  split <;> omega

end Go.Proofs.YtohpacgpmkpeaaaDoor

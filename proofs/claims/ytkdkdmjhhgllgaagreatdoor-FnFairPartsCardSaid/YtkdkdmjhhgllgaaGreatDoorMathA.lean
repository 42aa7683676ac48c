/-
  Tables, finding, putting and runs as plain functions, and what is true of them. No program.
-/
import Derived.RowKit3
import Derived.RangeFuncBox
import Derived.RangeFuncNested
import Derived.OwnWalkIn
namespace Go.Proofs.YtkdkdmjhhgllgaaGreatDoor

/-- A table as data. -/
structure Tab where
  t : Int
  p : Int
  zs : List Int

/-- lo to hi, both included -/
def inB (n lo hi : Int) : Bool := decide (lo ≤ n) && decide (n ≤ hi)
theorem inB_true {n lo hi : Int} (h : lo ≤ n ∧ n ≤ hi) : inB n lo hi = true := by simp [inB, h]
theorem inB_iff {n lo hi : Int} : inB n lo hi = true ↔ lo ≤ n ∧ n ≤ hi := by simp [inB]
theorem inB_false {n lo hi : Int} : inB n lo hi = false ↔ ¬ (lo ≤ n ∧ n ≤ hi) := by rw [← inB_iff]; simp

/-- The head of a table: its size, Times and Plus. -/
def headB (size times plus : Int) : Bool := inB size 1 16 && (inB times 0 15 && inB plus 0 15)
theorem head_size {n t p : Int} (h : headB n t p = true) : inB n 1 16 = true ∧ inB t 0 15 = true ∧ inB p 0 15 = true := by simpa [headB, and_assoc] using h

/-- What slot i of a list holds (0 behind its end). -/
abbrev nth (zs : List Int) (i : Nat) : Int := zs[i]?.getD 0

/-- The first k slots hold keys, free slots or tombs, and no key twice. -/
def Good (zs : List Int) (k : Nat) : Prop := ∀ i, i < k → inB (nth zs i) (-2) 99 = true ∧ (0 ≤ nth zs i → ∀ j, j < i → nth zs j ≠ nth zs i)
instance (zs : List Int) (k : Nat) : Decidable (Good zs k) := by unfold Good; infer_instance

def validB (T : Tab) : Bool := headB T.zs.length T.t T.p && decide (Good T.zs T.zs.length)
theorem validB_iff {T : Tab} : validB T = true ↔ headB T.zs.length T.t T.p = true ∧ Good T.zs T.zs.length := by simp [validB]

theorem Good.zero (zs : List Int) : Good zs 0 := fun _ h => by omega
theorem Good.succ {zs : List Int} {k : Nat} (h : Good zs k) (h1 : inB (nth zs k) (-2) 99 = true) (h2 : 0 ≤ nth zs k → ∀ j, j < k → nth zs j ≠ nth zs k) : Good zs (k + 1) := by
  intro i hi
  by_cases e : i = k
  · subst e; exact ⟨h1, h2⟩
  · exact h i (by omega)
theorem not_good {zs : List Int} {k n : Nat} (hk : k < n) (h : ¬ (inB (nth zs k) (-2) 99 = true ∧ (0 ≤ nth zs k → ∀ j, j < k → nth zs j ≠ nth zs k))) : ¬ Good zs n := fun hg => h (hg k hk)

/-- The first slot that holds n, or -1. -/
def fnd (zs : List Int) (n : Int) : Int := if zs.findIdx (· == n) < zs.length then zs.findIdx (· == n) else -1
theorem fnd_at {zs : List Int} {n : Int} {k : Nat} (hk : k < zs.length) (h : ∀ j, j < k → nth zs j ≠ n) (he : nth zs k = n) : fnd zs n = k := by
  have e : zs.findIdx (· == n) = k := by
    refine (List.findIdx_eq hk).2 ⟨?_, fun j hj => ?_⟩
    · rw [nth, List.getElem?_eq_getElem hk] at he
      simpa using he
    · have := h j hj
      rw [nth, List.getElem?_eq_getElem (by omega)] at this
      simpa using this
  simp [fnd, e, hk]
theorem fnd_none {zs : List Int} {n : Int} (h : ∀ j, j < zs.length → nth zs j ≠ n) : fnd zs n = -1 := by
  have e : zs.findIdx (· == n) = zs.length := by
    rw [List.findIdx_eq_length]
    intro x hx
    obtain ⟨j, hj, rfl⟩ := List.mem_iff_getElem.1 hx
    have := h j hj
    rw [nth, List.getElem?_eq_getElem hj] at this
    simpa using this
  simp [fnd, e]
theorem fnd_cases (zs : List Int) (n : Int) : (fnd zs n = -1 ∧ ∀ j, j < zs.length → nth zs j ≠ n) ∨ (∃ k : Nat, k < zs.length ∧ fnd zs n = k ∧ nth zs k = n ∧ ∀ j, j < k → nth zs j ≠ n) := by
  by_cases h : zs.findIdx (· == n) < zs.length
  · right
    refine ⟨zs.findIdx (· == n), h, by simp [fnd, h], ?_, fun j hj => ?_⟩
    · have := List.findIdx_getElem (w := h)
      rw [nth, List.getElem?_eq_getElem h]
      simpa using this
    · have := List.not_of_lt_findIdx hj
      rw [nth, List.getElem?_eq_getElem (by omega)]
      simpa using this
  · left
    refine ⟨by simp [fnd, h], fun j hj => ?_⟩
    have h1 : zs.findIdx (· == n) = zs.length := Nat.le_antisymm (List.findIdx_le_length) (by omega)
    have := (List.findIdx_eq_length (p := (· == n))).1 h1 zs[j] (List.getElem_mem hj)
    rw [nth, List.getElem?_eq_getElem hj]
    simpa using this

theorem ne_step {zs : List Int} {n : Int} {k : Nat} (h : ∀ j, j < k → nth zs j ≠ n) (he : nth zs k ≠ n) : ∀ j, j < k + 1 → nth zs j ≠ n := by
  intro j hj
  by_cases e : j = k
  · subst e; exact he
  · exact h j (by omega)

theorem fnd_first {zs : List Int} {x : Int} {k : Nat} (hk : k < zs.length) (he : nth zs k = x) : fnd zs x = k ↔ ∀ j, j < k → nth zs j ≠ x := by
  constructor
  · intro h
    rcases fnd_cases zs x with ⟨h1, h2⟩ | ⟨m, hm, h1, h2, h3⟩
    · exact absurd he (h2 k hk)
    · obtain rfl : m = k := by omega
      exact h3
  · exact fun h => fnd_at hk h he
theorem fnd_step {zs : List Int} {x : Int} {k : Nat} (hk : k < zs.length) (he : nth zs k = x) (h : (fnd zs x != (k : Int)) = false) : 0 ≤ nth zs k → ∀ j, j < k → nth zs j ≠ nth zs k := by
  intro _
  rw [he]
  exact (fnd_first hk he).1 (by simpa using h)
theorem fnd_bad {zs : List Int} {x : Int} {k : Nat} (hk : k < zs.length) (he : nth zs k = x) (h0 : 0 ≤ x) (h : (fnd zs x != (k : Int)) = true) : ¬ (inB x (-2) 99 = true ∧ (0 ≤ x → ∀ j, j < k → nth zs j ≠ x)) := by
  intro hc
  have := (fnd_first hk he).2 (hc.2 h0)
  simp [this] at h

/-- The home of a key. -/
def homeI (T : Tab) (key : Int) : Int := (T.t * key + T.p) % T.zs.length

theorem mul_bounds {t k : Int} (h1 : 0 ≤ t) (h2 : t ≤ 15) (h3 : -2 ≤ k) (h4 : k ≤ 99) : -30 ≤ t * k ∧ t * k ≤ 1485 := by
  constructor
  · have := Int.mul_le_mul_of_nonneg_left h3 h1; omega
  · by_cases hk : 0 ≤ k
    · have := Int.mul_le_mul h2 h4 hk (by omega); omega
    · have := Int.mul_le_mul_of_nonneg_left (show k ≤ 0 by omega) h1; omega
theorem mul_nonneg' {t k : Int} (h1 : 0 ≤ t) (h3 : 0 ≤ k) : 0 ≤ t * k := Int.mul_nonneg h1 h3

/-- What a valid table gives. -/
theorem valid_facts {T : Tab} (h : validB T = true) : (1 ≤ T.zs.length ∧ T.zs.length ≤ 16) ∧ (0 ≤ T.t ∧ T.t ≤ 15) ∧ (0 ≤ T.p ∧ T.p ≤ 15) ∧ Good T.zs T.zs.length := by
  obtain ⟨h1, h2⟩ := validB_iff.1 h
  obtain ⟨a, b, c⟩ := head_size h1
  obtain ⟨a1, a2⟩ := inB_iff.1 a
  exact ⟨⟨by omega, by omega⟩, inB_iff.1 b, inB_iff.1 c, h2⟩
theorem valid_slot {T : Tab} (h : validB T = true) {i : Nat} (hi : i < T.zs.length) : -2 ≤ nth T.zs i ∧ nth T.zs i ≤ 99 := inB_iff.1 ((valid_facts h).2.2.2 i hi).1

theorem homeI_bounds {T : Tab} (h : validB T = true) (key : Int) : 0 ≤ homeI T key ∧ homeI T key < T.zs.length := by
  have h1 := (valid_facts h).1
  exact ⟨Int.emod_nonneg _ (by omega), Int.emod_lt_of_pos _ (by omega)⟩

theorem tmod_bounds (x : Int) {n : Int} (hn : 0 < n) : -n < x.tmod n ∧ x.tmod n < n := by
  have h2 := Int.tmod_lt_of_pos x hn
  refine ⟨?_, h2⟩
  have h3 := Int.tmod_lt_of_pos (-x) hn
  rw [Int.neg_tmod] at h3
  omega
theorem wrap_mod (x n : Int) : (x.tmod n + n) % n = x % n := by
  have h : n * x.tdiv n + x.tmod n = x := Int.mul_tdiv_add_tmod x n
  have e : x % n = (x.tmod n + n * x.tdiv n) % n := by rw [Int.add_comm (x.tmod n), h]
  rw [Int.add_emod_right, e, Int.add_mul_emod_self_left]

/-- HomeOf of the document. -/
def homeOf (T : Tab) (key : Int) : Int := if validB T && inB key 0 99 then homeI T key else -1
theorem homeOf_no {T : Tab} {key : Int} (h : validB T = false ∨ inB key 0 99 = false) : -1 = homeOf T key := by
  unfold homeOf
  rcases h with h | h <;> simp [h]
theorem homeOf_yes {T : Tab} {key : Int} (h : validB T = true) (hk : inB key 0 99 = true) : homeI T key = homeOf T key := by simp [homeOf, h, hk]

end Go.Proofs.YtkdkdmjhhgllgaaGreatDoor

namespace Go.Proofs.YtkdkdmjhhgllgaaGreatDoor

/-- AwayOf of the document. -/
def awayOf (T : Tab) (slot : Int) : Int :=
  if validB T && inB slot 0 (T.zs.length - 1) && decide (0 ≤ nth T.zs slot.toNat) then (slot - homeI T (nth T.zs slot.toNat)) % T.zs.length else -1
theorem awayOf_no {T : Tab} {slot : Int} (h : validB T = false ∨ inB slot 0 (T.zs.length - 1) = false ∨ nth T.zs slot.toNat < 0) : -1 = awayOf T slot := by
  unfold awayOf
  rcases h with h | h | h
  · simp [h]
  · simp [h]
  · simp only [show ¬ 0 ≤ nth T.zs slot.toNat by omega, decide_false, Bool.and_false]; rfl
theorem awayOf_yes {T : Tab} {k : Nat} {x : Int} (h : validB T = true) (hk : k < T.zs.length) (hx : nth T.zs k = x) (h0 : 0 ≤ x) : ((k : Int) - homeI T x) % T.zs.length = awayOf T k := by
  have h1 : inB (k : Int) 0 (T.zs.length - 1) = true := inB_true (by omega)
  subst hx
  unfold awayOf
  rw [if_pos (by simp only [h, h1, Int.toNat_natCast, Bool.true_and, decide_eq_true_eq]; exact h0), Int.toNat_natCast]

/-- How many of the first k slots are so. -/
def cnt (p : Int → Bool) (zs : List Int) (k : Nat) : Nat := (zs.take k).countP p
theorem cnt_zero (p : Int → Bool) (zs : List Int) : cnt p zs 0 = 0 := by simp [cnt]
theorem cnt_succ {p : Int → Bool} {zs : List Int} {k : Nat} {x : Int} (hk : k < zs.length) (hx : nth zs k = x) : cnt p zs (k + 1) = cnt p zs k + (if p x then 1 else 0) := by
  have h : zs[k] = x := by simpa [nth, List.getElem?_eq_getElem hk] using hx
  rw [cnt, List.take_succ_eq_append_getElem hk, List.countP_append, h]
  simp [cnt, List.countP_cons]
theorem cnt_le (p : Int → Bool) (zs : List Int) (k : Nat) : cnt p zs k ≤ zs.length := Nat.le_trans List.countP_le_length (by simp; omega)
def keyP (x : Int) : Bool := !(x == -1) && !(x == -2)
def tombP (x : Int) : Bool := x == -2
def freeP (x : Int) : Bool := x == -1
/-- CountSlots of the document. -/
def countK (T : Tab) : Int := if validB T then cnt keyP T.zs T.zs.length else -1
def countT (T : Tab) : Int := if validB T then cnt tombP T.zs T.zs.length else -1
def countF (T : Tab) : Int := if validB T then cnt freeP T.zs T.zs.length else -1

/-- The keys below j that a list has, in order. -/
def sortTo (zs : List Int) (j : Nat) : List Int := ((List.range j).filter (fun k : Nat => decide (0 ≤ fnd zs k))).map (fun k : Nat => (k : Int))
/-- The keys of a list, in order, each once. -/
def sortU (zs : List Int) : List Int := sortTo zs 100
theorem sortTo_zero (zs : List Int) : sortTo zs 0 = [] := rfl
theorem sortTo_yes {zs : List Int} {j : Nat} (h : 0 ≤ fnd zs j) : sortTo zs (j + 1) = sortTo zs j ++ [(j : Int)] := by
  simp [sortTo, List.range_succ, List.filter_append, h]
theorem sortTo_no {zs : List Int} {j : Nat} (h : fnd zs j < 0) : sortTo zs (j + 1) = sortTo zs j := by
  have : ¬ 0 ≤ fnd zs j := by omega
  simp [sortTo, List.range_succ, List.filter_append, this]
theorem sortTo_len (zs : List Int) (j : Nat) : (sortTo zs j).length ≤ j := by
  simp only [sortTo, List.length_map]
  exact Nat.le_trans (List.length_filter_le _ _) (by simp)
theorem mem_sortTo {zs : List Int} {j : Nat} {x : Int} : x ∈ sortTo zs j ↔ ∃ k : Nat, k < j ∧ x = k ∧ 0 ≤ fnd zs k := by
  simp only [sortTo, List.mem_map, List.mem_filter, List.mem_range, decide_eq_true_eq]
  constructor
  · rintro ⟨k, ⟨h1, h2⟩, rfl⟩; exact ⟨k, h1, rfl, h2⟩
  · rintro ⟨k, h1, rfl, h2⟩; exact ⟨k, ⟨h1, h2⟩, rfl⟩

end Go.Proofs.YtkdkdmjhhgllgaaGreatDoor

namespace Go.Proofs.YtkdkdmjhhgllgaaGreatDoor

/-- Back along a ring. -/
theorem wsub {a b n : Int} (a0 : 0 ≤ a) (a1 : a < n) (b0 : 0 ≤ b) (b1 : b < n) : (a - b) % n = if b ≤ a then a - b else a - b + n := by
  split
  · exact Int.emod_eq_of_lt (by omega) (by omega)
  · rw [← Int.add_emod_right]
    exact Int.emod_eq_of_lt (by omega) (by omega)
/-- On along a ring. -/
theorem wadd {a b n : Int} (a0 : 0 ≤ a) (a1 : a < n) (b0 : 0 ≤ b) (b1 : b < n) : (a + b) % n = if a + b < n then a + b else a + b - n := by
  split
  · exact Int.emod_eq_of_lt (by omega) (by omega)
  · rw [← Int.sub_emod_right]
    exact Int.emod_eq_of_lt (by omega) (by omega)
theorem nadd {a b n : Nat} (a1 : a < n) (b1 : b ≤ n) : (a + b) % n = if a + b < n then a + b else a + b - n := by
  split
  · exact Nat.mod_eq_of_lt (by omega)
  · rw [Nat.mod_eq_sub_mod (by omega)]
    exact Nat.mod_eq_of_lt (by omega)

theorem Good.inj {zs : List Int} {n i j : Nat} (h : Good zs n) (hi : i < n) (hj : j < n) (e : nth zs i = nth zs j) (h0 : 0 ≤ nth zs i) : i = j := by
  rcases Nat.lt_trichotomy i j with h1 | h1 | h1
  · exact absurd e ((h j hj).2 (by omega) i h1)
  · exact h1
  · exact absurd e.symm ((h i hi).2 h0 j h1)

def turnL (zs : List Int) : List Int := (List.range zs.length).map fun i => nth zs ((i + zs.length - 1) % zs.length)
/-- A table turned by a slot, whose Plus is one greater. -/
def turn (T : Tab) : Tab := ⟨T.t, T.p + 1, turnL T.zs⟩
theorem turnL_len (zs : List Int) : (turnL zs).length = zs.length := by simp [turnL]
theorem turn_len (T : Tab) : (turn T).zs.length = T.zs.length := turnL_len _
theorem turnL_nth {zs : List Int} {i : Nat} (hi : i < zs.length) : nth (turnL zs) i = nth zs ((i + zs.length - 1) % zs.length) := by
  simp [nth, turnL, hi]
theorem turn_back {i n : Nat} (hi : i < n) : ((i + 1) % n + n - 1) % n = i := by
  have h1 := nadd (b := 1) hi (by omega)
  rw [h1]
  split
  · rw [show i + 1 + n - 1 = i + n by omega, Nat.add_mod_right, Nat.mod_eq_of_lt hi]
  · rw [show i + 1 - n + n - 1 = i by omega, Nat.mod_eq_of_lt hi]
theorem turn_on {i n : Nat} (hi : i < n) : ((i + n - 1) % n + 1) % n = i := by
  by_cases h : i = 0
  · subst h
    rw [show 0 + n - 1 = n - 1 by omega, Nat.mod_eq_of_lt (show n - 1 < n by omega), show n - 1 + 1 = n by omega, Nat.mod_self]
  · rw [show i + n - 1 = (i - 1) + n by omega, Nat.add_mod_right, Nat.mod_eq_of_lt (show i - 1 < n by omega), show i - 1 + 1 = i by omega, Nat.mod_eq_of_lt hi]
theorem turnL_succ {zs : List Int} {i : Nat} (hi : i < zs.length) : nth (turnL zs) ((i + 1) % zs.length) = nth zs i := by
  rw [turnL_nth (Nat.mod_lt _ (by omega)), turn_back hi]

theorem turn_valid {T : Tab} (h : validB T = true) (hp : T.p < 15) : validB (turn T) = true := by
  obtain ⟨⟨l1, l2⟩, ⟨t1, t2⟩, ⟨p1, p2⟩, hg⟩ := valid_facts h
  rw [validB_iff]
  refine ⟨?_, fun i hi => ?_⟩
  · show headB _ T.t (T.p + 1) = true
    rw [turn_len]
    simp only [headB, inB, Bool.and_eq_true, decide_eq_true_eq]
    omega
  · rw [turn_len] at hi
    have e : nth (turn T).zs i = _ := turnL_nth hi
    have m1 : (i + T.zs.length - 1) % T.zs.length < T.zs.length := Nat.mod_lt _ (by omega)
    rw [e]
    refine ⟨(hg _ m1).1, fun h0 j hj e2 => ?_⟩
    have e3 : nth (turn T).zs j = _ := turnL_nth (show j < T.zs.length by omega)
    rw [e3] at e2
    have := hg.inj (Nat.mod_lt _ (by omega)) m1 e2 (by rw [e2]; exact h0)
    have h1 := turn_on hi
    have h2 := turn_on (show j < T.zs.length by omega)
    rw [this] at h2
    omega

theorem turn_home (T : Tab) (key : Int) : homeI (turn T) key = (homeI T key + 1) % T.zs.length := by
  unfold homeI
  rw [turn_len, Int.emod_add_emod]
  show (T.t * key + (T.p + 1)) % _ = _
  rw [← Int.add_assoc]

theorem turn_homeOf {T : Tab} {key : Int} (h : validB T = true) (hp : T.p < 15) (hk : inB key 0 99 = true) : homeOf (turn T) key = (homeOf T key + 1) % T.zs.length := by
  rw [← homeOf_yes h hk, ← homeOf_yes (turn_valid h hp) hk, turn_home]

theorem ring_turn (a b n : Int) : ((a + 1) % n - (b + 1) % n) % n = (a - b) % n := by
  rw [← Int.sub_emod, show a + 1 - (b + 1) = a - b by omega]

theorem turn_away {T : Tab} (h : validB T = true) (hp : T.p < 15) {i : Nat} (hi : i < T.zs.length) : awayOf (turn T) (((i + 1) % T.zs.length : Nat) : Int) = awayOf T i := by
  have hn := turn_len T
  have m : (i + 1) % T.zs.length < T.zs.length := Nat.mod_lt _ (by omega)
  have e : nth (turn T).zs ((i + 1) % T.zs.length) = nth T.zs i := turnL_succ hi
  by_cases h0 : 0 ≤ nth T.zs i
  · rw [← awayOf_yes h hi rfl h0, ← awayOf_yes (turn_valid h hp) (by omega) e h0, turn_home, hn]
    have := ring_turn i (homeI T (nth T.zs i)) T.zs.length
    rw [← this]
    congr 2
  · rw [← awayOf_no (T := T) (slot := (i : Int)) (.inr (.inr (by rw [Int.toNat_natCast]; omega))), ← awayOf_no (T := turn T) (slot := (((i + 1) % T.zs.length : Nat) : Int)) (.inr (.inr (by rw [Int.toNat_natCast, e]; omega)))]

/-- What is known of a key's home. -/
theorem homeOf_cases (T : Tab) (key : Int) : (homeOf T key = -1 ∧ (validB T = false ∨ inB key 0 99 = false)) ∨ (homeOf T key = homeI T key ∧ validB T = true ∧ (0 ≤ key ∧ key ≤ 99) ∧ 0 ≤ homeI T key ∧ homeI T key < T.zs.length) := by
  cases hv : validB T
  · exact .inl ⟨(homeOf_no (.inl hv)).symm, .inl rfl⟩
  · cases hk : inB key 0 99
    · exact .inl ⟨(homeOf_no (.inr hk)).symm, .inr rfl⟩
    · exact .inr ⟨(homeOf_yes hv hk).symm, rfl, inB_iff.1 hk, homeI_bounds hv key⟩

theorem home_rest (T : Tab) (key : Int) : (T.t * key + T.p - homeI T key) % T.zs.length = 0 := by
  unfold homeI
  rw [← Int.emod_eq_emod_iff_emod_sub_eq_zero]
  simp

theorem home_apart (T : Tab) (key : Int) : (T.zs.length : Int) ∣ (homeI T (key + 1) - homeI T key - T.t) := by
  unfold homeI
  apply Int.dvd_of_emod_eq_zero
  rw [Int.sub_emod, ← Int.sub_emod (T.t * (key + 1) + T.p) (T.t * key + T.p), ← Int.sub_emod]
  have : T.t * (key + 1) + T.p - (T.t * key + T.p) - T.t = 0 := by rw [Int.mul_add]; omega
  rw [this]; simp
theorem home_apart_t (T : Tab) (key : Int) : (homeI T (key + 1) - homeI T key - T.t).tmod T.zs.length = 0 := Int.tmod_eq_zero_of_dvd (home_apart T key)
theorem home_far (T : Tab) (key : Int) : homeI T (key + T.zs.length) = homeI T key := by
  unfold homeI
  rw [Int.mul_add, show T.t * key + T.t * T.zs.length + T.p = T.t * key + T.p + T.t * T.zs.length by omega, Int.add_mul_emod_self_right]

theorem away_back {a b n : Int} (a0 : 0 ≤ a) (a1 : a < n) : (b + (a - b) % n) % n = a := by
  rw [Int.add_emod_emod, show b + (a - b) = a by omega, Int.emod_eq_of_lt a0 a1]

/-- What is known of how far a slot lies from home. -/
theorem awayOf_cases (T : Tab) (slot : Int) : awayOf T slot = -1 ∨ ∃ (k : Nat) (x : Int), slot = k ∧ k < T.zs.length ∧ nth T.zs k = x ∧ 0 ≤ x ∧ x ≤ 99 ∧ validB T = true ∧ awayOf T slot = (k - homeI T x) % T.zs.length ∧ 0 ≤ awayOf T slot ∧ awayOf T slot < T.zs.length := by
  cases hv : validB T
  · exact .inl (awayOf_no (.inl hv)).symm
  · cases hs : inB slot 0 (T.zs.length - 1)
    · exact .inl (awayOf_no (.inr (.inl hs))).symm
    · obtain ⟨s0, s1⟩ := inB_iff.1 hs
      obtain ⟨k, rfl⟩ : ∃ k : Nat, slot = k := ⟨slot.toNat, by omega⟩
      by_cases h0 : 0 ≤ nth T.zs k
      · have hk : k < T.zs.length := by omega
        have hb := valid_slot hv hk
        have e := awayOf_yes hv hk rfl h0
        refine .inr ⟨k, _, rfl, hk, rfl, h0, hb.2, rfl, e.symm, ?_, ?_⟩
        · rw [← e]; exact Int.emod_nonneg _ (by omega)
        · rw [← e]; exact Int.emod_lt_of_pos _ (by omega)
      · exact .inl (awayOf_no (.inr (.inr (by simpa using h0)))).symm

end Go.Proofs.YtkdkdmjhhgllgaaGreatDoor

namespace Go.Proofs.YtkdkdmjhhgllgaaGreatDoor

theorem good_nodup {zs : List Int} (h : Good zs zs.length) : (zs.filter fun x => inB x 0 99).Nodup := by
  rw [List.nodup_iff_pairwise_ne, List.pairwise_filter]
  rw [List.pairwise_iff_getElem]
  intro i j hi hj hij h1 h2 e
  have hi' : nth zs i = zs[i] := by simp [nth, List.getElem?_eq_getElem hi]
  have hj' : nth zs j = zs[j] := by simp [nth, List.getElem?_eq_getElem hj]
  have h3 := (inB_iff.1 h1).1
  have := h.inj hi hj (by rw [hi', hj', e]) (by rw [hi']; exact h3)
  omega

theorem sortU_pairwise (zs : List Int) : (sortU zs).Pairwise (· < ·) := by
  unfold sortU sortTo
  rw [List.pairwise_map]
  refine List.Pairwise.filter _ ?_
  refine List.pairwise_lt_range.imp ?_
  intro a b h
  omega

theorem sortU_mem {zs : List Int} {x : Int} : x ∈ sortU zs ↔ (0 ≤ x ∧ x ≤ 99) ∧ x ∈ zs := by
  unfold sortU
  rw [mem_sortTo]
  constructor
  · rintro ⟨k, hk, rfl, h⟩
    rcases fnd_cases zs (k : Int) with ⟨h1, _⟩ | ⟨j, hj, _, h2, _⟩
    · omega
    · refine ⟨by omega, ?_⟩
      rw [← h2, nth, List.getElem?_eq_getElem hj]
      exact List.getElem_mem hj
  · rintro ⟨⟨h0, h1⟩, h⟩
    obtain ⟨k, rfl⟩ : ∃ k : Nat, x = k := ⟨x.toNat, by omega⟩
    refine ⟨k, by omega, rfl, ?_⟩
    rcases fnd_cases zs (k : Int) with ⟨_, h2⟩ | ⟨j, hj, e, _⟩
    · obtain ⟨i, hi, e⟩ := List.getElem_of_mem h
      exact absurd (by rw [nth, List.getElem?_eq_getElem hi]; simpa using e) (h2 i hi)
    · omega

theorem sort_keys {zs : List Int} (h : Good zs zs.length) : ((zs.filter fun x => inB x 0 99).mergeSort fun x y => decide (x ≤ y)) = sortU zs := by
  have hp := List.mergeSort_perm (zs.filter fun x => inB x 0 99) (fun x y => decide (x ≤ y))
  have hs := List.pairwise_mergeSort (le := fun x y : Int => decide (x ≤ y)) (fun a b c h1 h2 => by simp at *; omega) (fun a b => by simp; omega) (zs.filter fun x => inB x 0 99)
  have hu := sortU_pairwise zs
  have hperm : (zs.filter fun x => inB x 0 99).Perm (sortU zs) := by
    rw [List.perm_ext_iff_of_nodup (good_nodup h) (hu.imp fun h => by omega)]
    intro x
    rw [List.mem_filter, sortU_mem, inB_iff]
    exact And.comm
  refine List.Perm.eq_of_pairwise (le := fun x y : Int => decide (x ≤ y) = true) (fun a b _ _ h1 h2 => ?_) hs (hu.imp fun h => ?_) (hp.trans hperm)
  · simp at h1 h2; omega
  · simp; omega

end Go.Proofs.YtkdkdmjhhgllgaaGreatDoor

namespace Go.Proofs.YtkdkdmjhhgllgaaGreatDoor

/-- The slot to which one comes by i steps from h on. -/
def stepS (T : Tab) (h i : Nat) : Nat := (h + i) % T.zs.length
theorem stepS_lt {T : Tab} (hn : 1 ≤ T.zs.length) (h i : Nat) : stepS T h i < T.zs.length := Nat.mod_lt _ (by omega)

/-- A slot at which one stops who looks for a key. -/
def stopAt (T : Tab) (key : Int) (h i : Nat) : Bool := nth T.zs (stepS T h i) == -1 || nth T.zs (stepS T h i) == key

/-- How many of the first n steps are taken without a stop. -/
def goN (p : Nat → Bool) (n : Nat) : Nat := (List.range n).findIdx p
theorem goN_le (p : Nat → Bool) (n : Nat) : goN p n ≤ n := by
  have := List.findIdx_le_length (p := p) (xs := List.range n)
  simpa [goN] using this
theorem goN_free {p : Nat → Bool} {n j : Nat} (hj : j < goN p n) : p j = false := by
  have h1 := goN_le p n
  have h2 := List.not_of_lt_findIdx (p := p) (xs := List.range n) (i := j) hj
  simpa using h2
theorem goN_stop {p : Nat → Bool} {n : Nat} (h : goN p n < n) : p (goN p n) = true := by
  have h2 := List.findIdx_getElem (p := p) (xs := List.range n) (w := by simpa [goN] using h)
  simpa [goN] using h2
theorem goN_eq {p : Nat → Bool} {n i : Nat} (hi : i < n) (h : ∀ j, j < i → p j = false) (hp : p i = true) : goN p n = i := by
  have h1 := goN_le p n
  rcases Nat.lt_trichotomy (goN p n) i with h2 | h2 | h2
  · have := goN_stop (p := p) (n := n) (by omega)
    rw [h _ h2] at this
    cases this
  · exact h2
  · have := goN_free (p := p) (n := n) h2
    rw [hp] at this
    cases this
theorem goN_all {p : Nat → Bool} {n : Nat} (h : ∀ j, j < n → p j = false) : goN p n = n := by
  have h1 := goN_le p n
  by_cases h2 : goN p n < n
  · have := goN_stop h2
    rw [h _ h2] at this
    cases this
  · omega

/-- How many slots are visited to find a key: the last one included. -/
def visN (T : Tab) (key : Int) (h : Nat) : Nat := min (goN (stopAt T key h) T.zs.length + 1) T.zs.length
theorem visN_stop {T : Tab} {key : Int} {h i : Nat} (hi : i < T.zs.length) (hf : ∀ j, j < i → stopAt T key h j = false) (hp : stopAt T key h i = true) : visN T key h = i + 1 := by
  unfold visN
  rw [goN_eq hi hf hp]
  omega
theorem visN_all {T : Tab} {key : Int} {h : Nat} (hf : ∀ j, j < T.zs.length → stopAt T key h j = false) : visN T key h = T.zs.length := by
  unfold visN
  rw [goN_all hf]
  omega
theorem visN_bounds {T : Tab} (hn : 1 ≤ T.zs.length) (key : Int) (h : Nat) : 1 ≤ visN T key h ∧ visN T key h ≤ T.zs.length := by
  unfold visN
  omega

/-- The slots of the first k steps. -/
def wayTo (T : Tab) (h k : Nat) : List Int := (List.range k).map fun i => (stepS T h i : Int)
theorem wayTo_succ (T : Tab) (h k : Nat) : wayTo T h (k + 1) = wayTo T h k ++ [(stepS T h k : Int)] := by
  simp [wayTo, List.range_succ]
theorem wayTo_len (T : Tab) (h k : Nat) : (wayTo T h k).length = k := by simp [wayTo]
theorem wayTo_nth {T : Tab} {h k i : Nat} (hi : i < k) : nth (wayTo T h k) i = stepS T h i := by
  simp [nth, wayTo, hi]

def homeN (T : Tab) (key : Int) : Nat := (homeI T key).toNat
theorem homeN_eq {T : Tab} (h : validB T = true) (key : Int) : (homeN T key : Int) = homeI T key := by
  have := homeI_bounds h key
  unfold homeN
  omega
theorem homeN_lt {T : Tab} (h : validB T = true) (key : Int) : homeN T key < T.zs.length := by
  have := homeI_bounds h key
  unfold homeN
  omega

/-- The slots that are visited for a key. -/
def wayOf (T : Tab) (key : Int) : List Int := wayTo T (homeN T key) (visN T key (homeN T key))
/-- The last slot that is visited for a key. -/
def lastOf (T : Tab) (key : Int) : Nat := stepS T (homeN T key) (visN T key (homeN T key) - 1)
/-- The slot where a key is found, or -1. -/
def findI (T : Tab) (key : Int) : Int := if nth T.zs (lastOf T key) = key then lastOf T key else -1

/-- FindKey, VisitsFor, LostKeys, IsSound, PlaceFor of the document. -/
def findOf (T : Tab) (key : Int) : Int := if validB T && inB key 0 99 then findI T key else -1
def visOf (T : Tab) (key : Int) : Int := if validB T && inB key 0 99 then visN T key (homeN T key) else -1
def lostOf (T : Tab) : List Int := if validB T then (sortU T.zs).filter (fun k => decide (findI T k < 0)) else []
def soundB (T : Tab) : Bool := validB T && decide (lostOf T = [])
/-- The first slot of a way that is free or a tomb, or -1. -/
def firstLow (zs : List Int) (way : List Int) : Int := ((way.find? fun k => decide (nth zs k.toNat < 0)).getD (-1))
def placeI (T : Tab) (key : Int) : Int := if validB T && inB key 0 99 && decide (findI T key < 0) then firstLow T.zs (wayOf T key) else -1

theorem lastOf_lt {T : Tab} (hn : 1 ≤ T.zs.length) (key : Int) : lastOf T key < T.zs.length := stepS_lt hn _ _
theorem findI_bounds {T : Tab} (hn : 1 ≤ T.zs.length) (key : Int) : -1 ≤ findI T key ∧ findI T key < T.zs.length := by
  have := lastOf_lt hn key
  unfold findI
  split <;> omega

end Go.Proofs.YtkdkdmjhhgllgaaGreatDoor

namespace Go.Proofs.YtkdkdmjhhgllgaaGreatDoor

theorem vis_free {T : Tab} {key : Int} {h i : Nat} (hi : i < visN T key h - 1) : stopAt T key h i = false :=
  goN_free (n := T.zs.length) (by unfold visN at hi; omega)
theorem stop_no {T : Tab} {key : Int} {h i : Nat} (hs : stopAt T key h i = false) : nth T.zs (stepS T h i) ≠ -1 ∧ nth T.zs (stepS T h i) ≠ key := by
  simpa [stopAt] using hs
theorem stop_is {T : Tab} {key : Int} {h i : Nat} (h1 : nth T.zs (stepS T h i) ≠ -1) (h2 : nth T.zs (stepS T h i) ≠ key) : stopAt T key h i = false := by
  simp [stopAt, h1, h2]
theorem stop_key {T : Tab} {key : Int} {h i : Nat} (h1 : nth T.zs (stepS T h i) = key) : stopAt T key h i = true := by
  simp [stopAt, h1]
theorem stop_free {T : Tab} {key : Int} {h i : Nat} (h1 : nth T.zs (stepS T h i) = -1) : stopAt T key h i = true := by
  simp [stopAt, h1]
theorem find_yes {T : Tab} {key : Int} (h : 0 ≤ findI T key) : findI T key = lastOf T key ∧ nth T.zs (lastOf T key) = key := by
  unfold findI at h ⊢
  split at h
  · rename_i h1
    exact ⟨if_pos h1, h1⟩
  · omega
theorem find_no {T : Tab} {key : Int} (h : findI T key < 0) : findI T key = -1 ∧ nth T.zs (lastOf T key) ≠ key := by
  unfold findI at h ⊢
  split at h
  · omega
  · rename_i h1
    exact ⟨if_neg h1, h1⟩
/-- A slot as a number of steps from another one. -/
theorem step_away {T : Tab} {h k : Nat} (hh : h < T.zs.length) (hk : k < T.zs.length) : stepS T h ((k + T.zs.length - h) % T.zs.length) = k ∧ (k + T.zs.length - h) % T.zs.length < T.zs.length := by
  refine ⟨?_, Nat.mod_lt _ (by omega)⟩
  rw [stepS, Nat.add_mod_mod, show h + (k + T.zs.length - h) = k + T.zs.length by omega, Nat.add_mod_right, Nat.mod_eq_of_lt hk]
theorem step_inj {T : Tab} {h i j : Nat} (hh : h < T.zs.length) (hi : i < T.zs.length) (hj : j < T.zs.length) (e : stepS T h i = stepS T h j) : i = j := by
  unfold stepS at e
  rw [nadd hh (by omega), nadd hh (by omega)] at e
  split at e <;> split at e <;> omega
/-- The steps from the home of a key to where it is. -/
theorem away_step {T : Tab} (hv : validB T = true) {j : Nat} {x : Int} (hj : j < T.zs.length) (hx : nth T.zs (stepS T (homeN T x) j) = x) (h0 : 0 ≤ x) : awayOf T (stepS T (homeN T x) j : Nat) = j := by
  obtain ⟨⟨l1, _⟩, _⟩ := valid_facts hv
  have hh := homeN_lt hv x
  have e := homeN_eq hv x
  rw [← awayOf_yes hv (stepS_lt l1 _ _) hx h0, ← e]
  have hl := stepS_lt (T := T) l1 (homeN T x) j
  rw [wsub (by omega) (by omega) (by omega) (by omega)]
  unfold stepS at hl ⊢
  rw [nadd hh (by omega)]
  split <;> split <;> omega

theorem last_away {T : Tab} {key : Int} (hv : validB T = true) (h0 : 0 ≤ key) (hf : nth T.zs (lastOf T key) = key) : awayOf T (lastOf T key : Nat) = (visN T key (homeN T key) : Int) - 1 := by
  obtain ⟨⟨l1, _⟩, _⟩ := valid_facts hv
  have hb := visN_bounds l1 key (homeN T key)
  have := away_step hv (j := visN T key (homeN T key) - 1) (by omega) hf h0
  unfold lastOf
  rw [this]
  omega
theorem last_free {T : Tab} {key : Int} (hf : nth T.zs (lastOf T key) ≠ key) : nth T.zs (lastOf T key) = -1 ∨ visN T key (homeN T key) = T.zs.length := by
  by_cases h : goN (stopAt T key (homeN T key)) T.zs.length < T.zs.length
  · left
    have h1 := goN_stop h
    have h2 : visN T key (homeN T key) - 1 = goN (stopAt T key (homeN T key)) T.zs.length := by unfold visN; omega
    unfold lastOf at hf ⊢
    rw [h2] at hf ⊢
    simp only [stopAt, Bool.or_eq_true, beq_iff_eq] at h1
    rcases h1 with h1 | h1
    · exact h1
    · exact absurd h1 hf
  · right
    have h1 := goN_le (stopAt T key (homeN T key)) T.zs.length
    unfold visN
    omega
theorem last_cast {T : Tab} (hv : validB T = true) (key : Int) : (homeI T key + (visN T key (homeN T key) : Int) - 1) % (T.zs.length : Int) = (lastOf T key : Int) := by
  obtain ⟨⟨l1, _⟩, _⟩ := valid_facts hv
  have hb := visN_bounds l1 key (homeN T key)
  rw [← homeN_eq hv key, lastOf, stepS, Int.natCast_emod]
  congr 1
  omega

/-- Where a key is found: the steps to it. -/
theorem find_at {T : Tab} {key : Int} {j : Nat} (hj : j < T.zs.length) (hf : ∀ i, i < j → stopAt T key (homeN T key) i = false) (hx : nth T.zs (stepS T (homeN T key) j) = key) (_h0 : 0 ≤ key) :
    visN T key (homeN T key) = j + 1 ∧ lastOf T key = stepS T (homeN T key) j ∧ findI T key = stepS T (homeN T key) j := by
  have h1 := visN_stop hj hf (stop_key hx)
  have h2 : lastOf T key = stepS T (homeN T key) j := by rw [lastOf, h1]; rfl
  refine ⟨h1, h2, ?_⟩
  unfold findI
  rw [h2, if_pos hx]
/-- A key that lies in a table behind no free slot is found. -/
theorem found_iff {T : Tab} {key : Int} (hv : validB T = true) {j : Nat} (hj : j < T.zs.length) (hx : nth T.zs (stepS T (homeN T key) j) = key) (h0 : 0 ≤ key) :
    0 ≤ findI T key ↔ ∀ i, i < j → nth T.zs (stepS T (homeN T key) i) ≠ -1 := by
  obtain ⟨⟨l1, _⟩, _, _, hg⟩ := valid_facts hv
  have hh := homeN_lt hv key
  have hne : ∀ i, i < j → nth T.zs (stepS T (homeN T key) i) ≠ key := fun i hi e => by
    have := hg.inj (stepS_lt l1 _ _) (stepS_lt l1 _ _) (e.trans hx.symm) (by rw [e]; exact h0)
    have := step_inj hh (by omega) hj this
    omega
  constructor
  · intro hf i hi e
    obtain ⟨_, h2⟩ := find_yes hf
    have hb := visN_bounds l1 key (homeN T key)
    have h3 : visN T key (homeN T key) - 1 = j := by
      refine step_inj hh (by omega) hj (hg.inj (stepS_lt l1 _ _) (stepS_lt l1 _ _) ?_ ?_)
      · rw [hx]; exact h2
      · exact (show (0 : Int) ≤ nth T.zs (lastOf T key) by rw [h2]; exact h0)
    exact (stop_no (vis_free (T := T) (key := key) (h := homeN T key) (i := i) (by omega))).1 e
  · intro hf
    obtain ⟨_, _, h3⟩ := find_at hj (fun i hi => stop_is (hf i hi) (hne i hi)) hx h0
    omega

theorem low_get {zs way : List Int} (h : 0 ≤ firstLow zs way) : ∃ j, j < way.length ∧ firstLow zs way = nth way j ∧ nth zs (nth way j).toNat < 0 ∧ ∀ i, i < j → 0 ≤ nth zs (nth way i).toNat := by
  induction way with
  | nil => simp [firstLow] at h
  | cons x way ih =>
    by_cases hx : nth zs x.toNat < 0
    · refine ⟨0, by simp, ?_, by simpa [nth] using hx, fun i hi => by omega⟩
      unfold firstLow
      rw [List.find?_cons_of_pos (by simpa using hx)]
      simp [nth]
    · have e : firstLow zs (x :: way) = firstLow zs way := by
        unfold firstLow
        rw [List.find?_cons_of_neg (by simpa using hx)]
      rw [e] at h ⊢
      obtain ⟨j, h1, h2, h3, h4⟩ := ih h
      refine ⟨j + 1, by simpa using h1, by simpa [nth] using h2, by simpa [nth] using h3, fun i hi => ?_⟩
      cases i with
      | zero => simpa [nth] using hx
      | succ i => simpa [nth] using h4 i (by omega)
theorem low_not {zs way : List Int} (h : firstLow zs way < 0) (hw : ∀ i, i < way.length → 0 ≤ nth way i) : ∀ i, i < way.length → 0 ≤ nth zs (nth way i).toNat := by
  induction way with
  | nil => intro i hi; simp at hi
  | cons x way ih =>
    by_cases hx : nth zs x.toNat < 0
    · have h0 := hw 0 (by simp)
      unfold firstLow at h
      rw [List.find?_cons_of_pos (by simpa using hx)] at h
      simp [nth] at h h0
      omega
    · have e : firstLow zs (x :: way) = firstLow zs way := by
        unfold firstLow
        rw [List.find?_cons_of_neg (by simpa using hx)]
      rw [e] at h
      intro i hi
      cases i with
      | zero => simpa [nth] using hx
      | succ i => simpa [nth] using ih h (fun k hk => by simpa [nth] using hw (k + 1) (by simp; omega)) i (by simpa using hi)

theorem place_asked {T : Tab} {key : Int} (h : 0 ≤ placeI T key) : validB T = true ∧ (0 ≤ key ∧ key ≤ 99) ∧ findI T key < 0 ∧ placeI T key = firstLow T.zs (wayOf T key) := by
  unfold placeI at h ⊢
  split at h
  · rename_i h1
    rw [if_pos h1]
    simp only [Bool.and_eq_true, decide_eq_true_eq] at h1
    exact ⟨h1.1.1, inB_iff.1 h1.1.2, h1.2, rfl⟩
  · omega
/-- A place for a key: the first slot on its way that holds none. -/
theorem place_yes {T : Tab} {key : Int} (h : 0 ≤ placeI T key) : ∃ j, j < visN T key (homeN T key) ∧ placeI T key = stepS T (homeN T key) j ∧ nth T.zs (stepS T (homeN T key) j) < 0 ∧ ∀ i, i < j → 0 ≤ nth T.zs (stepS T (homeN T key) i) := by
  obtain ⟨_, _, _, e⟩ := place_asked h
  rw [e] at h
  obtain ⟨j, h1, h2, h3, h4⟩ := low_get h
  rw [wayOf, wayTo_len] at h1
  rw [wayOf, wayTo_nth h1] at h2 h3
  refine ⟨j, h1, by rw [e]; exact h2, by simpa using h3, fun i hi => ?_⟩
  have := h4 i hi
  rw [wayOf, wayTo_nth (by omega)] at this
  simpa using this
theorem placeI_low {T : Tab} {key : Int} (h : placeI T key < 0) : placeI T key = -1 := by
  unfold placeI at h ⊢
  split
  · rename_i h1
    rw [if_pos h1] at h
    unfold firstLow at h ⊢
    cases hc : List.find? (fun k => decide (nth T.zs k.toNat < 0)) (wayOf T key) with
    | none => rfl
    | some v =>
      rw [hc] at h
      obtain ⟨i, hi, e⟩ := List.getElem_of_mem (List.mem_of_find?_eq_some hc)
      rw [wayOf, wayTo_len] at hi
      have := wayTo_nth (T := T) (h := homeN T key) hi
      rw [nth] at this
      have e2 : (wayOf T key)[i]? = some v := by rw [List.getElem?_eq_getElem (by rw [wayOf, wayTo_len]; exact hi), e]
      rw [wayOf] at e2
      rw [e2] at this
      simp at this h
      omega
  · rfl
/-- No place for a key that is not there: no slot is free or a tomb. -/
theorem place_no {T : Tab} {key : Int} (hv : validB T = true) (hk : 0 ≤ key ∧ key ≤ 99) (hf : findI T key < 0) (h : placeI T key < 0) : ∀ i, i < T.zs.length → 0 ≤ nth T.zs i := by
  have e : placeI T key = firstLow T.zs (wayOf T key) := by
    unfold placeI
    rw [if_pos (by simp [hv, inB, hk, hf])]
  rw [e] at h
  have hh := homeN_lt hv key
  have h1 := low_not h (fun i hi => by
    rw [wayOf, wayTo_len] at hi
    rw [wayOf, wayTo_nth hi]; omega)
  have h2 : ∀ i, i < visN T key (homeN T key) → 0 ≤ nth T.zs (stepS T (homeN T key) i) := fun i hi => by
    have := h1 i (by rw [wayOf, wayTo_len]; exact hi)
    rw [wayOf, wayTo_nth hi] at this
    simpa using this
  obtain ⟨⟨l1, _⟩, _⟩ := valid_facts hv
  have hb := visN_bounds l1 key (homeN T key)
  have h3 : visN T key (homeN T key) = T.zs.length := by
    rcases last_free (find_no hf).2 with h3 | h3
    · have := h2 (visN T key (homeN T key) - 1) (by omega)
      unfold lastOf at h3
      omega
    · exact h3
  intro i hi
  obtain ⟨e1, e2⟩ := step_away hh hi
  have := h2 _ (by rw [h3]; exact e2)
  rwa [e1] at this

end Go.Proofs.YtkdkdmjhhgllgaaGreatDoor

namespace Go.Proofs.YtkdkdmjhhgllgaaGreatDoor

theorem nth_set {zs : List Int} {k : Nat} (hk : k < zs.length) (x : Int) (i : Nat) : nth (zs.set k x) i = if i = k then x else nth zs i := by
  unfold nth
  rw [List.getElem?_set]
  by_cases h : k = i
  · subst h; simp [hk]
  · simp [h, Ne.symm h]

/-- A table is sound if all its keys are found. -/
theorem sound_all {T : Tab} : soundB T = true ↔ validB T = true ∧ ∀ i, i < T.zs.length → 0 ≤ nth T.zs i → 0 ≤ findI T (nth T.zs i) := by
  unfold soundB
  cases hv : validB T
  · simp
  · simp only [Bool.true_and, decide_eq_true_eq, true_and]
    rw [lostOf, if_pos hv, List.filter_eq_nil_iff]
    constructor
    · intro h i hi h0
      have h1 := h (nth T.zs i) (sortU_mem.2 ⟨⟨h0, (valid_slot hv hi).2⟩, by rw [nth, List.getElem?_eq_getElem hi]; exact List.getElem_mem hi⟩)
      simpa using h1
    · intro h x hx
      obtain ⟨⟨h0, _⟩, hm⟩ := sortU_mem.1 hx
      obtain ⟨i, hi, e⟩ := List.getElem_of_mem hm
      have e2 : nth T.zs i = x := by rw [nth, List.getElem?_eq_getElem hi, e]; rfl
      have := h i hi (by rw [e2]; exact h0)
      rw [e2] at this
      simpa using this

/-- A table with a key in a slot. -/
def putAt (T : Tab) (k : Nat) (x : Int) : Tab := ⟨T.t, T.p, T.zs.set k x⟩
theorem putAt_len (T : Tab) (k : Nat) (x : Int) : (putAt T k x).zs.length = T.zs.length := by simp [putAt]
theorem putAt_home (T : Tab) (k : Nat) (x y : Int) : homeN (putAt T k x) y = homeN T y := by simp [homeN, homeI, putAt]
theorem putAt_step (T : Tab) (k : Nat) (x : Int) (h i : Nat) : stepS (putAt T k x) h i = stepS T h i := by simp [stepS, putAt]

def putOk (T : Tab) (key : Int) : Bool := decide (0 ≤ placeI T key) && soundB T
def putT (T : Tab) (key : Int) : Tab := if putOk T key then putAt T (placeI T key).toNat key else ⟨0, 0, []⟩
def putVis (T : Tab) (key : Int) : Int := if putOk T key then visOf T key else -1

theorem putOk_parts {T : Tab} {key : Int} (h : putOk T key = true) : 0 ≤ placeI T key ∧ soundB T = true := by simpa [putOk] using h
theorem putPlace_lt {T : Tab} {key : Int} (h : 0 ≤ placeI T key) : (placeI T key).toNat < T.zs.length := by
  obtain ⟨hv, _⟩ := place_asked h
  obtain ⟨⟨l1, _⟩, _⟩ := valid_facts hv
  obtain ⟨j, _, e, _⟩ := place_yes h
  have := stepS_lt (T := T) l1 (homeN T key) j
  rw [e]; omega

structure PutSays (T : Tab) (key : Int) (k : Nat) : Prop where
  val : validB T = true
  lt : k < T.zs.length
  low : nth T.zs k < 0
  key0 : 0 ≤ key ∧ key ≤ 99
  val2 : validB (putAt T k key) = true
  find2 : findI (putAt T k key) key = k
  vis2 : visN (putAt T k key) key (homeN T key) ≤ visN T key (homeN T key)
  sound2 : soundB (putAt T k key) = true

theorem put_says {T : Tab} {key : Int} (h : putOk T key = true) : PutSays T key (placeI T key).toNat := by
  obtain ⟨hp, hs⟩ := putOk_parts h
  have hlt := putPlace_lt hp
  obtain ⟨hv, hk, hf, _⟩ := place_asked hp
  obtain ⟨j, hj, e, h1, h2⟩ := place_yes hp
  obtain ⟨⟨l1, l2⟩, ht, hpp, hg⟩ := valid_facts hv
  have hb := visN_bounds l1 key (homeN T key)
  have ek : (placeI T key).toNat = stepS T (homeN T key) j := by rw [e]; rfl
  rw [ek] at hlt ⊢
  have hno : ∀ i, i < T.zs.length → nth T.zs i ≠ key := fun i hi e => by
    have := (sound_all.1 hs).2 i hi (by rw [e]; exact hk.1)
    rw [e] at this
    omega
  generalize hkk : stepS T (homeN T key) j = k at hlt h1 ek ⊢
  have hnth := nth_set hlt key
  have hv2 : validB (putAt T k key) = true := by
    refine validB_iff.2 ⟨by simpa [putAt] using (validB_iff.1 hv).1, ?_⟩
    rw [putAt_len]
    intro i hi
    show inB (nth (T.zs.set k key) i) (-2) 99 = true ∧ (0 ≤ nth (T.zs.set k key) i → ∀ j, j < i → nth (T.zs.set k key) j ≠ nth (T.zs.set k key) i)
    rw [hnth]
    refine ⟨?_, fun h0 m hm => ?_⟩
    · split
      · exact inB_true ⟨by omega, hk.2⟩
      · exact (hg i hi).1
    · rw [hnth]
      split <;> split
      · omega
      · exact (hno i hi).symm
      · exact hno m (by omega)
      · rename_i hm2 hi2
        rw [if_neg hi2] at h0
        exact (hg i hi).2 h0 m hm
  have hst : ∀ i, i < j → nth T.zs (stepS T (homeN T key) i) = nth (putAt T k key).zs (stepS T (homeN T key) i) := fun i hi => by
    show _ = nth (T.zs.set k key) _
    rw [hnth, if_neg]
    intro e
    have := h2 i hi
    rw [e] at this
    omega
  have F := find_at (T := putAt T k key) (key := key) (j := j) (by rw [putAt_len]; omega) (fun i hi => by
    rw [putAt_home]
    refine stop_is ?_ ?_
    · rw [putAt_step, ← hst i hi]
      have := h2 i hi
      omega
    · rw [putAt_step, ← hst i hi]
      exact hno _ (stepS_lt l1 _ _)) (by
    rw [putAt_home, putAt_step, hkk]
    show nth (T.zs.set k key) k = key
    rw [hnth, if_pos rfl]) hk.1
  rw [putAt_home, putAt_step, hkk] at F
  refine ⟨hv, hlt, h1, hk, hv2, F.2.2, by rw [F.1]; omega, sound_all.2 ⟨hv2, fun i hi h0 => ?_⟩⟩
  rw [putAt_len] at hi
  by_cases hik : i = k
  · subst hik
    have e2 : nth (putAt T i key).zs i = key := by
      show nth (T.zs.set i key) i = key
      rw [hnth, if_pos rfl]
    rw [e2, F.2.2]
    omega
  · have e2 : nth (putAt T k key).zs i = nth T.zs i := by
      show nth (T.zs.set k key) i = _
      rw [hnth, if_neg hik]
    rw [e2] at h0 ⊢
    have hf0 := (sound_all.1 hs).2 i hi h0
    generalize hy : nth T.zs i = y at h0 hf0 e2 ⊢
    have hh := homeN_lt hv y
    obtain ⟨a1, a2⟩ := step_away hh hi
    rw [found_iff hv a2 (by rw [a1]; exact hy) h0] at hf0
    rw [found_iff (T := putAt T k key) hv2 (j := (i + T.zs.length - homeN T y) % T.zs.length) (by rw [putAt_len]; exact a2) (by rw [putAt_home, putAt_step, a1]; exact e2) h0]
    intro m hm
    rw [putAt_home, putAt_step]
    show nth (T.zs.set k key) _ ≠ -1
    rw [hnth]
    split
    · omega
    · exact hf0 m hm

/-- All slots are keys, tombs or free. -/
theorem cnt_all (zs : List Int) : cnt keyP zs zs.length + cnt tombP zs zs.length + cnt freeP zs zs.length = zs.length := by
  unfold cnt
  rw [List.take_length]
  induction zs with
  | nil => rfl
  | cons x zs ih =>
    simp only [List.countP_cons, List.length_cons]
    have : (if keyP x = true then 1 else 0) + (if tombP x = true then 1 else 0) + (if freeP x = true then 1 else 0) = 1 := by
      unfold keyP tombP freeP
      by_cases h1 : x = -1
      · subst h1; rfl
      · by_cases h2 : x = -2
        · subst h2; rfl
        · simp [h1, h2]
    omega
theorem cnt_none {p : Int → Bool} {zs : List Int} (h : ∀ i, i < zs.length → p (nth zs i) = false) : cnt p zs zs.length = 0 := by
  unfold cnt
  rw [List.take_length, List.countP_eq_zero]
  intro x hx
  obtain ⟨i, hi, e⟩ := List.getElem_of_mem hx
  have := h i hi
  rw [nth, List.getElem?_eq_getElem hi, e] at this
  simpa using this
/-- Where no slot is free or a tomb, all are keys. -/
theorem counts_full {T : Tab} (hv : validB T = true) (h : ∀ i, i < T.zs.length → 0 ≤ nth T.zs i) : countT T = 0 ∧ countF T = 0 ∧ countK T = T.zs.length := by
  have h1 : cnt tombP T.zs T.zs.length = 0 := cnt_none fun i hi => by
    have := h i hi
    simp [tombP]; omega
  have h2 : cnt freeP T.zs T.zs.length = 0 := cnt_none fun i hi => by
    have := h i hi
    simp [freeP]; omega
  have h3 := cnt_all T.zs
  simp only [countT, countF, countK, hv, if_true]
  omega

def loadOf (T : Tab) : Int := if validB T then 100 * (countK T + countT T) / T.zs.length else -1
/-- What a share of the slots says of their numbers. -/
theorem load_says {T : Tab} (hv : validB T = true) : 0 ≤ loadOf T ∧ loadOf T ≤ 100 ∧ (loadOf T = 100 ↔ countF T = 0) ∧ loadOf T * T.zs.length ≤ 100 * (countK T + countT T) ∧ 100 * (countK T + countT T) < (loadOf T + 1) * T.zs.length := by
  obtain ⟨⟨l1, l2⟩, _⟩ := valid_facts hv
  have h3 := cnt_all T.zs
  unfold loadOf
  simp only [countT, countF, countK, hv, if_true]
  generalize cnt keyP T.zs T.zs.length = a at h3 ⊢
  generalize cnt tombP T.zs T.zs.length = b at h3 ⊢
  generalize cnt freeP T.zs T.zs.length = c at h3 ⊢
  generalize T.zs.length = n at l1 l2 h3 ⊢
  have e1 := Int.emod_add_mul_ediv (100 * ((a : Int) + b)) n
  have e2 := Int.emod_nonneg (100 * ((a : Int) + b)) (b := (n : Int)) (by omega)
  have e3 := Int.emod_lt_of_pos (100 * ((a : Int) + b)) (b := (n : Int)) (by omega)
  generalize (100 * ((a : Int) + b)) % (n : Int) = r at e1 e2 e3
  generalize 100 * ((a : Int) + b) / (n : Int) = q at e1 ⊢
  rw [Int.mul_comm] at e1
  have hq0 : 0 ≤ q := by
    refine Int.not_lt.1 fun hq => ?_
    have := Int.mul_le_mul_of_nonneg_right (a := q) (b := -1) (c := (n : Int)) (by omega) (by omega)
    omega
  have hq1 : q ≤ 100 := by
    refine Int.not_lt.1 fun hq => ?_
    have := Int.mul_le_mul_of_nonneg_right (a := 101) (b := q) (c := (n : Int)) (by omega) (by omega)
    omega
  refine ⟨hq0, hq1, ⟨fun h => ?_, fun h => ?_⟩, by omega, by rw [Int.add_mul]; omega⟩
  · subst h; omega
  · refine Int.le_antisymm hq1 (Int.not_lt.1 fun hq => ?_)
    have := Int.mul_le_mul_of_nonneg_right (a := q) (b := 99) (c := (n : Int)) (by omega) (by omega)
    omega

end Go.Proofs.YtkdkdmjhhgllgaaGreatDoor

namespace Go.Proofs.YtkdkdmjhhgllgaaGreatDoor

theorem nth_map {f : Int → Int} {zs : List Int} {i : Nat} (hi : i < zs.length) : nth (zs.map f) i = f (nth zs i) := by
  simp [nth, hi]
theorem nth_ext {xs ys : List Int} (hl : xs.length = ys.length) (h : ∀ i, i < xs.length → nth xs i = nth ys i) : xs = ys := by
  refine List.ext_getElem hl fun i h1 h2 => ?_
  have := h i h1
  simpa [nth, h1, h2] using this
theorem mem_nth {zs : List Int} {x : Int} (h : x ∈ zs) : ∃ i, i < zs.length ∧ nth zs i = x := by
  obtain ⟨i, hi, e⟩ := List.getElem_of_mem h
  exact ⟨i, hi, by rw [nth, List.getElem?_eq_getElem hi, e]; rfl⟩
theorem nth_mem {zs : List Int} {i : Nat} (hi : i < zs.length) : nth zs i ∈ zs := by
  rw [nth, List.getElem?_eq_getElem hi]; exact List.getElem_mem hi

/-- A key of a sound table is found where it is. -/
theorem sound_find {T : Tab} (hs : soundB T = true) {i : Nat} (hi : i < T.zs.length) (h0 : 0 ≤ nth T.zs i) : findI T (nth T.zs i) = i := by
  obtain ⟨hv, hf⟩ := sound_all.1 hs
  obtain ⟨⟨l1, _⟩, _, _, hg⟩ := valid_facts hv
  obtain ⟨e1, e2⟩ := find_yes (hf i hi h0)
  rw [e1, hg.inj (lastOf_lt l1 _) hi e2 (by rw [e2]; exact h0)]
/-- A number that no slot holds is not found. -/
theorem none_find {T : Tab} (hv : validB T = true) {y : Int} (h : ∀ i, i < T.zs.length → nth T.zs i ≠ y) : findI T y = -1 := by
  obtain ⟨⟨l1, _⟩, _⟩ := valid_facts hv
  unfold findI
  rw [if_neg (h _ (lastOf_lt l1 _))]

/-- One table has the keys of another one where they are, and perhaps fewer. -/
structure Less (T U : Tab) : Prop where
  t : U.t = T.t
  p : U.p = T.p
  len : U.zs.length = T.zs.length
  at' : ∀ i, i < T.zs.length → nth U.zs i = nth T.zs i ∨ nth U.zs i = -2 ∨ nth U.zs i = -1

theorem Less.home {T U : Tab} (h : Less T U) (y : Int) : homeN U y = homeN T y := by simp [homeN, homeI, h.t, h.p, h.len]
theorem Less.step {T U : Tab} (h : Less T U) (a i : Nat) : stepS U a i = stepS T a i := by simp [stepS, h.len]
theorem Less.key {T U : Tab} (h : Less T U) {i : Nat} (hi : i < T.zs.length) (h0 : 0 ≤ nth U.zs i) : nth U.zs i = nth T.zs i := by
  rcases h.at' i hi with e | e | e
  · exact e
  · omega
  · omega
theorem Less.valid {T U : Tab} (h : Less T U) (hv : validB T = true) : validB U = true := by
  obtain ⟨h1, h2⟩ := validB_iff.1 hv
  refine validB_iff.2 ⟨by rw [h.len, h.t, h.p]; exact h1, ?_⟩
  rw [h.len]
  intro i hi
  obtain ⟨a, b⟩ := h2 i hi
  refine ⟨?_, fun h0 j hj e => ?_⟩
  · rcases h.at' i hi with e | e | e <;> rw [e]
    · exact a
    · rfl
    · rfl
  · have k1 := h.key hi h0
    have k2 := h.key (show j < T.zs.length by omega) (by rw [e]; exact h0)
    exact b (by rw [← k1]; exact h0) j hj (by rw [← k1, ← k2]; exact e)
/-- What remains is found if no slot ahead of it becomes free. -/
theorem Less.found {T U : Tab} (h : Less T U) (hs : soundB T = true) {i : Nat} (hi : i < T.zs.length) (h0 : 0 ≤ nth U.zs i)
    (hf : ∀ m, m < (i + T.zs.length - homeN T (nth T.zs i)) % T.zs.length → nth T.zs (stepS T (homeN T (nth T.zs i)) m) ≠ -1 → nth U.zs (stepS T (homeN T (nth T.zs i)) m) ≠ -1) : 0 ≤ findI U (nth U.zs i) := by
  obtain ⟨hv, hF⟩ := sound_all.1 hs
  have hv2 := h.valid hv
  have e2 := h.key hi h0
  rw [e2] at h0 ⊢
  have hf0 := hF i hi h0
  generalize hy : nth T.zs i = y at *
  have hh := homeN_lt hv y
  obtain ⟨a1, a2⟩ := step_away hh hi
  rw [found_iff hv a2 (by rw [a1]; exact hy) h0] at hf0
  rw [found_iff (T := U) hv2 (j := (i + T.zs.length - homeN T y) % T.zs.length) (by rw [h.len]; exact a2) (by rw [h.home, h.step, a1]; exact e2) h0]
  intro m hm
  rw [h.home, h.step]
  exact hf m hm (hf0 m hm)
theorem Less.sound {T U : Tab} (h : Less T U) (hs : soundB T = true) (hf : ∀ i, i < T.zs.length → nth U.zs i = nth T.zs i ∨ nth U.zs i = -2) : soundB U = true := by
  obtain ⟨hv, _⟩ := sound_all.1 hs
  obtain ⟨⟨l1, _⟩, _⟩ := valid_facts hv
  refine sound_all.2 ⟨h.valid hv, fun i hi h0 => ?_⟩
  rw [h.len] at hi
  refine h.found hs hi h0 fun m _ h1 => ?_
  rcases hf _ (stepS_lt l1 _ _) with e | e
  · rw [e]; exact h1
  · omega

/-- Some keys become tombs. -/
def dropL (ks zs : List Int) : List Int := zs.map fun z => if z ∈ ks then -2 else z
def dropAt (T : Tab) (ks : List Int) : Tab := ⟨T.t, T.p, dropL ks T.zs⟩
theorem dropL_len (ks zs : List Int) : (dropL ks zs).length = zs.length := by simp [dropL]
theorem dropL_nth {ks zs : List Int} {i : Nat} (hi : i < zs.length) : nth (dropL ks zs) i = if nth zs i ∈ ks then -2 else nth zs i := nth_map hi
theorem dropL_nil (zs : List Int) : dropL [] zs = zs := by simp [dropL]
theorem drop_less (T : Tab) (ks : List Int) : Less T (dropAt T ks) := ⟨rfl, rfl, dropL_len _ _, fun i hi => by
  show nth (dropL ks T.zs) i = _ ∨ nth (dropL ks T.zs) i = _ ∨ _
  rw [dropL_nth hi]
  split <;> simp⟩
theorem drop_sound {T : Tab} (hs : soundB T = true) (ks : List Int) : soundB (dropAt T ks) = true := (drop_less T ks).sound hs fun i hi => by
  show nth (dropL ks T.zs) i = _ ∨ nth (dropL ks T.zs) i = _
  rw [dropL_nth hi]
  split <;> simp
/-- A key more. -/
theorem dropL_snoc {ks zs : List Int} (hg : Good zs zs.length) {k : Nat} {x : Int} (h0 : 0 ≤ x) (hk : k < zs.length) (hx : nth (dropL ks zs) k = x) : dropL (ks ++ [x]) zs = (dropL ks zs).set k (-2) := by
  refine nth_ext (by simp [dropL]) fun i hi => ?_
  rw [dropL_len] at hi
  rw [dropL_nth hi, nth_set (by rw [dropL_len]; exact hk), dropL_nth hi]
  rw [dropL_nth hk] at hx
  split at hx
  · omega
  rename_i hkn
  by_cases hik : i = k
  · subst hik
    simp [hx]
  · rw [if_neg hik]
    have : nth zs i ≠ x := fun e => hik (hg.inj hi hk (e.trans hx.symm) (by rw [e]; exact h0))
    simp only [List.mem_append, List.mem_singleton, this, or_false]
theorem dropL_keep {ks zs : List Int} {x : Int} (h : ∀ i, i < zs.length → nth (dropL ks zs) i ≠ x) : dropL (ks ++ [x]) zs = dropL ks zs := by
  refine nth_ext (by simp [dropL]) fun i hi => ?_
  rw [dropL_len] at hi
  have hn := h i hi
  rw [dropL_nth hi] at hn ⊢
  rw [dropL_nth hi]
  by_cases hm : nth zs i ∈ ks
  · simp [hm]
  · rw [if_neg hm] at hn ⊢
    simp [hm, hn]
theorem drops_step {T : Tab} (hs : soundB T = true) (ks : List Int) {x : Int} (h0 : 0 ≤ x) :
    (∃ k : Nat, k < T.zs.length ∧ findI (dropAt T ks) x = k ∧ dropL (ks ++ [x]) T.zs = (dropL ks T.zs).set k (-2)) ∨ (findI (dropAt T ks) x = -1 ∧ dropL (ks ++ [x]) T.zs = dropL ks T.zs) := by
  obtain ⟨hv, _⟩ := sound_all.1 hs
  obtain ⟨⟨l1, _⟩, _, _, hg⟩ := valid_facts hv
  have hs2 := drop_sound hs ks
  obtain ⟨hv2, _⟩ := sound_all.1 hs2
  by_cases h : ∃ k, k < T.zs.length ∧ nth (dropL ks T.zs) k = x
  · obtain ⟨k, hk, e⟩ := h
    have := sound_find hs2 (i := k) (by simpa [dropAt, dropL] using hk) (by show 0 ≤ nth (dropL ks T.zs) k; omega)
    have e2 : nth (dropAt T ks).zs k = x := e
    rw [e2] at this
    exact .inl ⟨k, hk, this, dropL_snoc hg h0 hk e⟩
  · have h' : ∀ i, i < T.zs.length → nth (dropL ks T.zs) i ≠ x := fun i hi e => h ⟨i, hi, e⟩
    exact .inr ⟨none_find hv2 fun i hi => h' i (by simpa [dropAt, dropL] using hi), dropL_keep h'⟩

/-- DropKey and DropAll of the document. -/
def dropOk (T : Tab) (key : Int) : Bool := decide (0 ≤ findOf T key) && soundB T
def dropT (T : Tab) (key : Int) : Tab := if dropOk T key then dropAt T [key] else ⟨0, 0, []⟩
def keysB (ks : List Int) : Bool := decide (ks.length ≤ 100) && ks.all fun x => inB x 0 99
def dropsOk (T : Tab) (ks : List Int) : Bool := soundB T && keysB ks
def dropsT (T : Tab) (ks : List Int) : Tab := if dropsOk T ks then dropAt T ks else ⟨0, 0, []⟩

theorem dropT_no {T : Tab} {key : Int} (h : dropOk T key = false) : dropT T key = ⟨0, 0, []⟩ := by simp [dropT, h]
theorem dropT_yes {T : Tab} {key : Int} (h : dropOk T key = true) : dropT T key = dropAt T [key] := by simp [dropT, h]
theorem dropsT_no {T : Tab} {ks : List Int} (h : dropsOk T ks = false) : dropsT T ks = ⟨0, 0, []⟩ := by simp [dropsT, h]
theorem dropsT_yes {T : Tab} {ks : List Int} (h : dropsOk T ks = true) : dropsT T ks = dropAt T ks := by simp [dropsT, h]

structure DropSays (T : Tab) (key : Int) (k : Nat) : Prop where
  val : validB T = true
  snd : soundB T = true
  key0 : 0 ≤ key ∧ key ≤ 99
  lt : k < T.zs.length
  find : findOf T key = k ∧ findI T key = k
  here : nth T.zs k = key
  eq : dropT T key = putAt T k (-2) ∧ dropT T key = dropAt T [key]
  snd2 : soundB (putAt T k (-2)) = true
  val2 : validB (putAt T k (-2)) = true
  gone : findI (putAt T k (-2)) key = -1
  same : ∀ y, y ≠ key → 0 ≤ y → findI (putAt T k (-2)) y = findI T y

theorem drop_says {T : Tab} {key : Int} (h : dropOk T key = true) : ∃ k : Nat, DropSays T key k := by
  have h' := h
  simp only [dropOk, Bool.and_eq_true, decide_eq_true_eq] at h'
  obtain ⟨hf, hs⟩ := h'
  have hfo := hf
  unfold findOf at hf
  split at hf
  · rename_i hvk
    simp only [Bool.and_eq_true] at hvk
    obtain ⟨hv, hk⟩ := hvk
    have hk := inB_iff.1 hk
    obtain ⟨⟨l1, _⟩, _, _, hg⟩ := valid_facts hv
    obtain ⟨e1, e2⟩ := find_yes hf
    have hlt := lastOf_lt (T := T) l1 key
    have hset : dropAt T [key] = putAt T (lastOf T key) (-2) := by
      have := dropL_snoc (ks := []) hg hk.1 hlt (by rw [dropL_nil]; exact e2)
      rw [dropL_nil, List.nil_append] at this
      simp only [dropAt, putAt, this]
    have hs2 : soundB (putAt T (lastOf T key) (-2)) = true := by rw [← hset]; exact drop_sound hs [key]
    have hv2 := (sound_all.1 hs2).1
    refine ⟨lastOf T key, hv, hs, hk, hlt, ⟨by rw [findOf, if_pos (by simp [hv, inB, hk]), e1], e1⟩, e2, ⟨(dropT_yes h).trans hset, dropT_yes h⟩, hs2, hv2, ?_, ?_⟩
    · refine none_find hv2 fun i hi => ?_
      rw [putAt_len] at hi
      show nth (T.zs.set _ _) i ≠ _
      rw [nth_set hlt]
      split
      · omega
      · rename_i hne
        exact fun e => hne (hg.inj hi hlt (e.trans e2.symm) (by rw [e]; exact hk.1))
    · intro y hy hy0
      have hnth : ∀ i, nth (putAt T (lastOf T key) (-2)).zs i = if i = lastOf T key then -2 else nth T.zs i := fun i => nth_set hlt _ i
      by_cases hin : ∃ i, i < T.zs.length ∧ nth T.zs i = y
      · obtain ⟨i, hi, rfl⟩ := hin
        have hne : i ≠ lastOf T key := fun e => hy (by rw [e]; exact e2)
        have a := sound_find hs hi hy0
        have b := sound_find hs2 (i := i) (by rw [putAt_len]; exact hi) (by rw [hnth, if_neg hne]; exact hy0)
        rw [hnth, if_neg hne] at b
        rw [a, b]
      · rw [none_find hv fun i hi e => hin ⟨i, hi, e⟩, none_find hv2 fun i hi => ?_]
        rw [putAt_len] at hi
        rw [hnth]
        split
        · omega
        · exact fun e => hin ⟨i, hi, e⟩
  · omega

end Go.Proofs.YtkdkdmjhhgllgaaGreatDoor

namespace Go.Proofs.YtkdkdmjhhgllgaaGreatDoor

/-- A row whose first k slots are changed. -/
def mapTo (f : Nat → Int → Int) (zs : List Int) (k : Nat) : List Int := (List.range zs.length).map fun i => if i < k then f i (nth zs i) else nth zs i
theorem mapTo_len (f : Nat → Int → Int) (zs : List Int) (k : Nat) : (mapTo f zs k).length = zs.length := by simp [mapTo]
theorem mapTo_nth {f : Nat → Int → Int} {zs : List Int} {k i : Nat} (hi : i < zs.length) : nth (mapTo f zs k) i = if i < k then f i (nth zs i) else nth zs i := by
  have : (mapTo f zs k)[i]? = some (if i < k then f i (nth zs i) else nth zs i) := by
    unfold mapTo
    rw [List.getElem?_map, List.getElem?_range hi]
    rfl
  rw [nth, this]
  rfl
theorem mapTo_zero (f : Nat → Int → Int) (zs : List Int) : mapTo f zs 0 = zs := nth_ext (mapTo_len ..) fun i hi => by
  rw [mapTo_len] at hi
  rw [mapTo_nth hi, if_neg (by omega)]
theorem mapTo_at {f : Nat → Int → Int} {zs : List Int} {k : Nat} (hk : k < zs.length) : nth (mapTo f zs k) k = nth zs k := by
  rw [mapTo_nth hk, if_neg (by omega)]
theorem mapTo_set {f : Nat → Int → Int} {zs : List Int} {k : Nat} (hk : k < zs.length) : (mapTo f zs k).set k (f k (nth zs k)) = mapTo f zs (k + 1) := nth_ext (by simp [mapTo]) fun i hi => by
  simp only [List.length_set, mapTo_len] at hi
  rw [nth_set (by rw [mapTo_len]; exact hk), mapTo_nth hi, mapTo_nth hi]
  by_cases h : i = k
  · subst h; simp
  · by_cases h2 : i < k
    · simp [h, h2, show i < k + 1 by omega]
    · simp [h, h2, show ¬ i < k + 1 by omega]
theorem mapTo_keep {f : Nat → Int → Int} {zs : List Int} {k : Nat} (hk : k < zs.length) (h : f k (nth zs k) = nth zs k) : mapTo f zs k = mapTo f zs (k + 1) := nth_ext (by simp [mapTo]) fun i hi => by
  rw [mapTo_len] at hi
  rw [mapTo_nth hi, mapTo_nth hi]
  by_cases h1 : i = k
  · subst h1; simp [h]
  · by_cases h2 : i < k
    · simp [h2, show i < k + 1 by omega]
    · simp [h2, show ¬ i < k + 1 by omega]
theorem mapTo_drop (ks zs : List Int) : mapTo (fun _ z => if z ∈ ks then -2 else z) zs zs.length = dropL ks zs := nth_ext (by simp [mapTo, dropL]) fun i hi => by
  rw [mapTo_len] at hi
  rw [mapTo_nth hi, if_pos hi, dropL_nth hi]

end Go.Proofs.YtkdkdmjhhgllgaaGreatDoor

namespace Go.Proofs.YtkdkdmjhhgllgaaGreatDoor

theorem cnt_set {p : Int → Bool} {zs : List Int} {k : Nat} {x : Int} (hk : k < zs.length) (h1 : p (nth zs k) = p x) : cnt p (zs.set k x) (zs.set k x).length = cnt p zs zs.length := by
  unfold cnt
  rw [List.take_length, List.take_length, List.countP_set hk]
  rw [nth, List.getElem?_eq_getElem hk] at h1
  have h1 : p zs[k] = p x := h1
  rw [h1]
  split
  · have : 0 < zs.countP p := List.countP_pos_iff.2 ⟨zs[k], List.getElem_mem hk, by rw [h1]; assumption⟩
    omega
  · omega

/-- Of a table T, its key and the table U without it. -/
structure DropFacts (T : Tab) (key : Int) (U : Tab) : Prop where
  len : U.zs.length = T.zs.length
  n1 : 1 ≤ T.zs.length
  n2 : T.zs.length ≤ 16
  val : validB T = true
  key0 : 0 ≤ key ∧ key ≤ 99
  gone : findOf U key = -1
  same : ∀ y, y ≠ key → 0 ≤ y → y ≤ 99 → (∃ i, i < T.zs.length ∧ nth T.zs i = y) → 0 ≤ findOf U y ∧ findOf T y = findOf U y
  snd : soundB U = true
  put : putOk U key = true
  snd2 : soundB (putT U key) = true
  load : loadOf U = loadOf T
theorem drop_facts {T : Tab} {key : Int} (h : dropOk T key = true) : DropFacts T key (dropT T key) := by
  obtain ⟨k, D⟩ := drop_says h
  rw [D.eq.1]
  obtain ⟨⟨l1, l2⟩, _⟩ := valid_facts D.val
  have hk : inB key 0 99 = true := inB_true D.key0
  have hnth : nth (putAt T k (-2)).zs k = -2 := by
    show nth (T.zs.set k (-2)) k = -2
    rw [nth_set D.lt, if_pos rfl]
  have hput : putOk (putAt T k (-2)) key = true := by
    simp only [putOk, D.snd2, Bool.and_true, decide_eq_true_eq]
    refine Int.not_lt.1 fun hlt => ?_
    have := place_no D.val2 D.key0 (by rw [D.gone]; omega) hlt k (by rw [putAt_len]; exact D.lt)
    rw [hnth] at this
    omega
  refine ⟨putAt_len _ _ _, l1, l2, D.val, D.key0, ?_, fun y hy h0 h9 hin => ?_, D.snd2, hput, ?_, ?_⟩
  · rw [findOf, if_pos (by rw [D.val2, hk]; rfl), D.gone]
  · obtain ⟨i, hi, e⟩ := hin
    have hyB : inB y 0 99 = true := inB_true ⟨h0, h9⟩
    have h1 := sound_find D.snd hi (by rw [e]; exact h0)
    rw [e] at h1
    have h2 := D.same y hy h0
    rw [findOf, if_pos (by rw [D.val2, hyB]; rfl), findOf, if_pos (by rw [D.val, hyB]; rfl), h2, h1]
    exact ⟨by omega, rfl⟩
  · have := (put_says hput).sound2
    rw [putT, if_pos hput]
    exact this
  · have e1 : cnt freeP (T.zs.set k (-2)) (T.zs.set k (-2)).length = cnt freeP T.zs T.zs.length := cnt_set D.lt (by
      have := D.key0
      rw [D.here]
      have h1 : freeP key = false := by simp [freeP]; omega
      rw [h1]; rfl)
    have e2 := cnt_all T.zs
    have e3 := cnt_all (T.zs.set k (-2))
    have e4 : (T.zs.set k (-2)).length = T.zs.length := by simp
    unfold loadOf countK countT
    rw [D.val, D.val2]
    simp only [if_true, putAt]
    rw [e1] at e3
    rw [e4] at e3 ⊢
    congr 2
    omega

end Go.Proofs.YtkdkdmjhhgllgaaGreatDoor

namespace Go.Proofs.YtkdkdmjhhgllgaaGreatDoor

def keysLL (zs : List Int) : List Int := zs.filter fun x => inB x 0 99
/-- As many free slots. -/
def freeT (T : Tab) : Tab := ⟨T.t, T.p, List.replicate T.zs.length (-1)⟩
/-- Some keys put one behind the other. -/
def putsT (T : Tab) (ps : List Int) : Tab := ps.foldl putT (freeT T)
theorem putsT_snoc (T : Tab) (ps : List Int) (x : Int) : putsT T (ps ++ [x]) = putT (putsT T ps) x := by simp [putsT]
def cleanT (T : Tab) : Tab := if soundB T then putsT T (keysLL T.zs) else ⟨0, 0, []⟩

structure CleanInv (T : Tab) (ps : List Int) (C : Tab) : Prop where
  t : C.t = T.t
  p : C.p = T.p
  len : C.zs.length = T.zs.length
  snd : soundB C = true
  keys : ∀ i, i < T.zs.length → 0 ≤ nth C.zs i → nth C.zs i ∈ ps
  cnt : cnt keyP C.zs C.zs.length = ps.length
  tomb : ∀ i, i < T.zs.length → nth C.zs i ≠ -2

theorem nth_rep {n i : Nat} (hi : i < n) : nth (List.replicate n (-1)) i = -1 := by simp [nth, hi]
theorem clean_nil {T : Tab} (hv : validB T = true) : CleanInv T [] (freeT T) := by
  have hl : (freeT T).zs.length = T.zs.length := by simp [freeT]
  have hn : ∀ i, i < T.zs.length → nth (freeT T).zs i = -1 := fun i hi => nth_rep hi
  refine ⟨rfl, rfl, hl, sound_all.2 ⟨validB_iff.2 ⟨by rw [hl]; exact (validB_iff.1 hv).1, fun i hi => ?_⟩, fun i hi h0 => ?_⟩, fun i hi h0 => ?_, ?_, fun i hi => by rw [hn i hi]; omega⟩
  · rw [hl] at hi
    rw [hn i hi]
    exact ⟨rfl, fun h => by omega⟩
  · rw [hl] at hi
    rw [hn i hi] at h0
    omega
  · rw [hn i hi] at h0
    omega
  · exact cnt_none fun i hi => by
      rw [hl] at hi
      rw [hn i hi]
      rfl

theorem cnt_more {p : Int → Bool} {zs : List Int} {k : Nat} {x : Int} (hk : k < zs.length) (h1 : p (nth zs k) = false) (h2 : p x = true) : cnt p (zs.set k x) (zs.set k x).length = cnt p zs zs.length + 1 := by
  unfold cnt
  rw [List.take_length, List.take_length, List.countP_set hk]
  rw [nth, List.getElem?_eq_getElem hk] at h1
  have h1 : p zs[k] = false := h1
  rw [h1, h2]
  simp

theorem clean_step {T : Tab} {ps : List Int} {C : Tab} (h : CleanInv T ps C) {x : Int} (hx : 0 ≤ x ∧ x ≤ 99) (hn : x ∉ ps) (hl : ps.length < T.zs.length) : putOk C x = true ∧ CleanInv T (ps ++ [x]) (putT C x) := by
  have hv := (sound_all.1 h.snd).1
  have hnf : findI C x = -1 := none_find hv fun i hi e => by
    rw [h.len] at hi
    exact hn (e ▸ h.keys i hi (by rw [e]; exact hx.1))
  have hp : putOk C x = true := by
    simp only [putOk, h.snd, Bool.and_true, decide_eq_true_eq]
    refine Int.not_lt.1 fun hlt => ?_
    have := (counts_full hv (place_no hv hx (by omega) hlt)).2.2
    simp only [countK, hv, if_true] at this
    have h1 := h.cnt
    have h2 := h.len
    omega
  refine ⟨hp, ?_⟩
  have P := put_says hp
  have hpl := (putOk_parts hp).1
  have e : placeI C x = ((placeI C x).toNat : Nat) := by omega
  have eU : putT C x = putAt C (placeI C x).toNat x := by simp [putT, hp]
  rw [eU]
  generalize (placeI C x).toNat = k at P
  have hnth : ∀ i, nth (putAt C k x).zs i = if i = k then x else nth C.zs i := fun i => nth_set P.lt x i
  refine ⟨h.t, h.p, (putAt_len C k x).trans h.len, P.sound2, fun i hi h0 => ?_, ?_, fun i hi => ?_⟩
  · rw [hnth] at h0 ⊢
    split
    · simp
    · rename_i hne
      rw [if_neg hne] at h0
      exact List.mem_append_left _ (h.keys i hi h0)
  · have h1 : keyP (nth C.zs k) = false := by
      have hlow := P.low
      have := (valid_slot hv P.lt).1
      have : nth C.zs k = -1 ∨ nth C.zs k = -2 := by omega
      rcases this with e | e <;> rw [e] <;> rfl
    have h2 : keyP x = true := by simp [keyP]; omega
    show cnt keyP (C.zs.set k x) (C.zs.set k x).length = _
    rw [cnt_more P.lt h1 h2, h.cnt]
    simp
  · rw [hnth]
    split
    · omega
    · exact h.tomb i hi

/-- The keys of the first k slots, put one behind the other. -/
theorem clean_to {T : Tab} (hv : validB T = true) (k : Nat) (hk : k ≤ T.zs.length) : CleanInv T (keysLL (T.zs.take k)) (putsT T (keysLL (T.zs.take k))) := by
  obtain ⟨_, _, _, hg⟩ := valid_facts hv
  induction k with
  | zero => simp only [List.take_zero, keysLL, List.filter_nil]; exact clean_nil hv
  | succ k ih =>
    have ih := ih (by omega)
    have hlt : k < T.zs.length := by omega
    have e1 : T.zs.take (k + 1) = T.zs.take k ++ [nth T.zs k] := by
      rw [List.take_add_one, nth, List.getElem?_eq_getElem hlt]; rfl
    have e2 : keysLL (T.zs.take (k + 1)) = keysLL (T.zs.take k) ++ if inB (nth T.zs k) 0 99 then [nth T.zs k] else [] := by
      rw [e1]
      simp [keysLL, List.filter_append, List.filter_cons]
    rw [e2]
    cases hb : inB (nth T.zs k) 0 99
    · simpa using ih
    · simp only [if_true]
      rw [putsT_snoc]
      refine (clean_step ih (inB_iff.1 hb) (fun hm => ?_) ?_).2
      · have hm := (List.mem_filter.1 hm).1
        obtain ⟨j, hj, e⟩ := List.getElem_of_mem hm
        have hj2 : j < k := by simp at hj; omega
        have e3 : nth T.zs j = nth T.zs k := by
          rw [nth, List.getElem?_eq_getElem (by omega)]
          simpa using e
        have := hg.inj (show j < T.zs.length by omega) hlt e3 (by rw [e3]; exact (inB_iff.1 hb).1)
        omega
      · have := List.length_filter_le (fun x => inB x 0 99) (T.zs.take k)
        have h2 := List.length_take_le k T.zs
        unfold keysLL
        omega
theorem clean_put {T : Tab} (hv : validB T = true) {k : Nat} (hk : k < T.zs.length) {x : Int} (hx : nth T.zs k = x) (h0 : 0 ≤ x) :
    putOk (putsT T (keysLL (T.zs.take k))) x = true ∧ putsT T (keysLL (T.zs.take (k + 1))) = putT (putsT T (keysLL (T.zs.take k))) x := by
  obtain ⟨_, _, _, hg⟩ := valid_facts hv
  have ih := clean_to hv k (by omega)
  have hb : inB x 0 99 = true := inB_true ⟨h0, by have := (valid_slot hv hk).2; omega⟩
  have e1 : T.zs.take (k + 1) = T.zs.take k ++ [x] := by
    rw [List.take_add_one, ← hx, nth, List.getElem?_eq_getElem hk]; rfl
  have e2 : keysLL (T.zs.take (k + 1)) = keysLL (T.zs.take k) ++ [x] := by
    rw [e1]; simp [keysLL, List.filter_append, List.filter_cons, hb]
  refine ⟨(clean_step ih (inB_iff.1 hb) (fun hm => ?_) ?_).1, by rw [e2, putsT_snoc]⟩
  · have hm := (List.mem_filter.1 hm).1
    obtain ⟨j, hj, e⟩ := List.getElem_of_mem hm
    have hj2 : j < k := by simp at hj; omega
    have e3 : nth T.zs j = x := by
      rw [nth, List.getElem?_eq_getElem (by omega)]
      simpa using e
    have := hg.inj (show j < T.zs.length by omega) hk (e3.trans hx.symm) (by rw [e3]; exact h0)
    omega
  · have := List.length_filter_le (fun x => inB x 0 99) (T.zs.take k)
    have h2 := List.length_take_le k T.zs
    unfold keysLL
    omega
theorem clean_skip {T : Tab} {k : Nat} (hk : k < T.zs.length) (h0 : nth T.zs k < 0) : keysLL (T.zs.take (k + 1)) = keysLL (T.zs.take k) := by
  have e1 : T.zs.take (k + 1) = T.zs.take k ++ [nth T.zs k] := by
    rw [List.take_add_one, nth, List.getElem?_eq_getElem hk]; rfl
  have hb : inB (nth T.zs k) 0 99 = false := inB_false.2 (by omega)
  rw [e1]
  simp only [keysLL, List.filter_append, List.filter_cons, hb]
  simp
theorem cleanT_no {T : Tab} (h : soundB T = false) : cleanT T = ⟨0, 0, []⟩ := by simp [cleanT, h]
theorem cleanT_yes {T : Tab} (h : soundB T = true) : cleanT T = putsT T (keysLL T.zs) := by simp [cleanT, h]
theorem cleanT_len (T : Tab) : (cleanT T).zs.length ≤ 16 := by
  unfold cleanT
  split
  · rename_i h
    have hv := (sound_all.1 h).1
    have := (clean_to hv T.zs.length (Nat.le_refl _)).len
    rw [List.take_length] at this
    rw [this]
    exact (valid_facts hv).1.2
  · simp

end Go.Proofs.YtkdkdmjhhgllgaaGreatDoor

namespace Go.Proofs.YtkdkdmjhhgllgaaGreatDoor

/-- Around a ring of n slots: m slots on from h; and how far s is behind h. -/
def fwd (n h m : Nat) : Nat := if h + m < n then h + m else h + m - n
def dst (n h s : Nat) : Nat := if h ≤ s then s - h else s + n - h
theorem fwd_lt {n h m : Nat} (hh : h < n) (hm : m ≤ n) : fwd n h m < n := by unfold fwd; split <;> omega
theorem dst_lt {n h s : Nat} (hh : h < n) (hs : s < n) : dst n h s < n := by unfold dst; split <;> omega
theorem fwd_dst {n h s : Nat} (hh : h < n) (hs : s < n) : fwd n h (dst n h s) = s := by unfold fwd dst; split <;> split <;> omega
theorem dst_fwd {n h m : Nat} (hh : h < n) (hm : m < n) : dst n h (fwd n h m) = m := by unfold fwd dst; split <;> split <;> omega
theorem dst_cases (n h s : Nat) : (h ≤ s ∧ dst n h s = s - h) ∨ (s < h ∧ dst n h s = s + n - h) := by
  unfold dst; split <;> omega
theorem fwd_cases (n h m : Nat) : (h + m < n ∧ fwd n h m = h + m) ∨ (n ≤ h + m ∧ fwd n h m = h + m - n) := by
  unfold fwd; split <;> omega
theorem dst_cut {n h o d : Nat} (hh : h < n) (_ho : o < n) (hd : d < n) (ha : ¬ dst n h (fwd n o d) < d) : dst n h o + d = dst n h (fwd n o d) := by
  rcases fwd_cases n o d with ⟨c1, e1⟩ | ⟨c1, e1⟩ <;> rcases dst_cases n h (fwd n o d) with ⟨c2, e2⟩ | ⟨c2, e2⟩ <;> rcases dst_cases n h o with ⟨c3, e3⟩ | ⟨c3, e3⟩ <;> omega
theorem dst_past {n h o d : Nat} (hh : h < n) (ho : o < n) (hd : d < n) (ha : dst n h (fwd n o d) < d) (hm : dst n h o < dst n h (fwd n o d)) : False := by
  rcases fwd_cases n o d with ⟨c1, e1⟩ | ⟨c1, e1⟩ <;> rcases dst_cases n h (fwd n o d) with ⟨c2, e2⟩ | ⟨c2, e2⟩ <;> rcases dst_cases n h o with ⟨c3, e3⟩ | ⟨c3, e3⟩ <;> omega
theorem dst_sum {n h o s : Nat} (hh : h < n) (ho : o < n) (hs : s < n) (hm : dst n h o < dst n h s) : dst n h s = dst n h o + dst n o s := by
  rcases dst_cases n h s with ⟨c1, e1⟩ | ⟨c1, e1⟩ <;> rcases dst_cases n o s with ⟨c2, e2⟩ | ⟨c2, e2⟩ <;> rcases dst_cases n h o with ⟨c3, e3⟩ | ⟨c3, e3⟩ <;> omega
theorem fwd_add {n h m d : Nat} (hh : h < n) (hm : m + d < n) : fwd n h (m + d) = fwd n (fwd n h m) d := by
  rcases fwd_cases n h m with ⟨c1, e1⟩ | ⟨c1, e1⟩ <;> rcases fwd_cases n h (m + d) with ⟨c2, e2⟩ | ⟨c2, e2⟩ <;> rcases fwd_cases n (fwd n h m) d with ⟨c3, e3⟩ | ⟨c3, e3⟩ <;> omega
theorem fwd_step {T : Tab} {h m : Nat} (hh : h < T.zs.length) (hm : m ≤ T.zs.length) : stepS T h m = fwd T.zs.length h m := by
  unfold stepS fwd
  split
  · exact Nat.mod_eq_of_lt (by assumption)
  · rw [Nat.mod_eq_sub_mod (by omega), Nat.mod_eq_of_lt (by omega)]
theorem dst_mod {n h s : Nat} (hh : h < n) (hs : s < n) : (s + n - h) % n = dst n h s := by
  unfold dst
  split
  · rw [Nat.mod_eq_sub_mod (by omega), Nat.mod_eq_of_lt (by omega)]; omega
  · exact Nat.mod_eq_of_lt (by omega)

/-- A table's head with other slots. -/
def tab (T : Tab) (zs : List Int) : Tab := ⟨T.t, T.p, zs⟩
theorem tab_self (T : Tab) : tab T T.zs = T := rfl
theorem tab_home {T : Tab} {zs : List Int} (hl : zs.length = T.zs.length) (y : Int) : homeN (tab T zs) y = homeN T y := by simp [homeN, homeI, tab, hl]

/-- How far from home the key of a slot lies. -/
def awN (T : Tab) (zs : List Int) (i : Nat) : Nat := dst T.zs.length (homeN T (nth zs i)) i
theorem awN_of {T : Tab} {zs : List Int} (hv : validB (tab T zs) = true) (hl : zs.length = T.zs.length) {i : Nat} (hi : i < T.zs.length) (h0 : 0 ≤ nth zs i) : awayOf (tab T zs) i = awN T zs i := by
  have hh : homeN (tab T zs) (nth zs i) < (tab T zs).zs.length := homeN_lt hv _
  have hi' : i < (tab T zs).zs.length := by show i < zs.length; omega
  obtain ⟨a1, a2⟩ := step_away hh hi'
  have e := away_step hv (x := nth zs i) a2 (by rw [a1]; rfl) h0
  rw [a1] at e
  rw [e, dst_mod hh hi', tab_home hl]
  show ((dst zs.length _ _ : Nat) : Int) = _
  rw [hl]; rfl

/-- The machine: the slot d behind the hole is looked at. What it hands back: the keys that are shifted, and the slots. -/
def shiftF (T : Tab) : Nat → List Int → Nat → Nat → List Int × List Int
  | 0, zs, _, _ => ([], zs)
  | f + 1, zs, hole, d =>
    if nth zs (fwd T.zs.length hole d) = -1 then ([], zs)
    else if awN T zs (fwd T.zs.length hole d) < d then shiftF T f zs hole (d + 1)
    else ((nth zs (fwd T.zs.length hole d)) :: (shiftF T f ((zs.set hole (nth zs (fwd T.zs.length hole d))).set (fwd T.zs.length hole d) (-1)) (fwd T.zs.length hole d) 1).1,
      (shiftF T f ((zs.set hole (nth zs (fwd T.zs.length hole d))).set (fwd T.zs.length hole d) (-1)) (fwd T.zs.length hole d) 1).2)

structure Hole (T : Tab) (zs : List Int) (hole d : Nat) : Prop where
  val : validB (tab T zs) = true
  len : zs.length = T.zs.length
  lt : hole < T.zs.length
  free : nth zs hole = -1
  d1 : 1 ≤ d
  d2 : d ≤ T.zs.length
  plain : ∀ i, i < T.zs.length → nth zs i ≠ -2

def moved (T : Tab) (zs : List Int) (hole d : Nat) : List Int := (zs.set hole (nth zs (fwd T.zs.length hole d))).set (fwd T.zs.length hole d) (-1)
theorem moved_len (T : Tab) (zs : List Int) (hole d : Nat) : (moved T zs hole d).length = zs.length := by simp [moved]

theorem Hole.klt {T : Tab} {zs : List Int} {hole d : Nat} (h : Hole T zs hole d) : fwd T.zs.length hole d < T.zs.length := fwd_lt h.lt h.d2
theorem Hole.full {T : Tab} {zs : List Int} {hole d : Nat} (h : Hole T zs hole d) (hx : nth zs (fwd T.zs.length hole d) ≠ -1) : d < T.zs.length ∧ fwd T.zs.length hole d ≠ hole ∧ 0 ≤ nth zs (fwd T.zs.length hole d) ∧ nth zs (fwd T.zs.length hole d) ≤ 99 := by
  have hl := h.lt
  have h2 := h.d2
  have hne : fwd T.zs.length hole d ≠ hole := fun e => hx (by rw [e]; exact h.free)
  have hs := valid_slot h.val (i := fwd T.zs.length hole d) (by show _ < zs.length; rw [h.len]; exact h.klt)
  have hp := h.plain _ h.klt
  have : (tab T zs).zs = zs := rfl
  rw [this] at hs
  refine ⟨?_, hne, by omega, hs.2⟩
  refine Nat.lt_of_le_of_ne h2 fun e => hne ?_
  unfold fwd; split <;> omega
theorem Hole.pass {T : Tab} {zs : List Int} {hole d : Nat} (h : Hole T zs hole d) (hx : nth zs (fwd T.zs.length hole d) ≠ -1) : Hole T zs hole (d + 1) :=
  { h with d1 := by omega, d2 := (h.full hx).1 }
theorem Hole.nth_moved {T : Tab} {zs : List Int} {hole d : Nat} (h : Hole T zs hole d) (i : Nat) :
    nth (moved T zs hole d) i = if i = fwd T.zs.length hole d then -1 else if i = hole then nth zs (fwd T.zs.length hole d) else nth zs i := by
  unfold moved
  rw [nth_set (by rw [List.length_set, h.len]; exact h.klt), nth_set (by rw [h.len]; exact h.lt)]
theorem Hole.move {T : Tab} {zs : List Int} {hole d : Nat} (h : Hole T zs hole d) (hx : nth zs (fwd T.zs.length hole d) ≠ -1) : Hole T (moved T zs hole d) (fwd T.zs.length hole d) 1 := by
  obtain ⟨f1, f2, f3, f4⟩ := h.full hx
  have hl := h.lt
  have hk := h.klt
  have hn := h.nth_moved
  obtain ⟨_, _, _, hg⟩ := valid_facts h.val
  have hg : Good zs zs.length := hg
  generalize hkk : fwd T.zs.length hole d = k at *
  refine ⟨validB_iff.2 ⟨?_, ?_⟩, by rw [moved_len]; exact h.len, hk, by rw [hn, if_pos rfl], Nat.le_refl _, by omega, fun i hi => ?_⟩
  · have := (validB_iff.1 h.val).1
    show headB (moved T zs hole d).length T.t T.p = true
    rw [moved_len]; exact this
  · show Good (moved T zs hole d) (moved T zs hole d).length
    rw [moved_len, h.len]
    intro i hi
    rw [hn i]
    refine ⟨?_, fun h0 j hj => ?_⟩
    · split
      · rfl
      · split
        · exact inB_true ⟨by omega, f4⟩
        · exact (hg i (by rw [h.len]; exact hi)).1
    · rw [hn j]
      by_cases c1 : i = k
      · rw [if_pos c1] at h0; omega
      · rw [if_neg c1] at h0 ⊢
        by_cases c2 : i = hole
        · rw [if_pos c2] at h0 ⊢
          split
          · omega
          · rw [if_neg (by omega)]
            intro e
            rename_i c3
            exact c3 (hg.inj (by rw [h.len]; omega) (by rw [h.len]; exact hk) e (by rw [e]; exact h0))
        · rw [if_neg c2] at h0 ⊢
          split
          · omega
          · split
            · intro e
              exact c1 (hg.inj (by rw [h.len]; exact hi) (by rw [h.len]; exact hk) e.symm h0)
            · intro e
              have := hg.inj (by rw [h.len]; omega) (by rw [h.len]; exact hi) e (by rw [e]; exact h0)
              omega
  · rw [hn i]
    split
    · omega
    · split
      · omega
      · exact h.plain i hi

/-- Sums. -/
def sumN (f : Nat → Nat) : Nat → Nat
  | 0 => 0
  | k + 1 => sumN f k + f k
theorem sumN_same {f g : Nat → Nat} {n : Nat} (h : ∀ j, j < n → f j = g j) : sumN f n = sumN g n := by
  induction n with
  | zero => rfl
  | succ n ih => simp only [sumN]; rw [ih fun j hj => h j (by omega), h n (by omega)]
theorem sumN_one {f g : Nat → Nat} {n i : Nat} (hi : i < n) (h : ∀ j, j < n → j ≠ i → f j = g j) : sumN f n + g i = sumN g n + f i := by
  induction n with
  | zero => omega
  | succ n ih =>
    simp only [sumN]
    by_cases e : i = n
    · subst e
      rw [sumN_same (g := g) fun j hj => h j (by omega) (by omega)]; omega
    · have := ih (by omega) fun j hj hne => h j (by omega) hne
      rw [h n (by omega) (by omega)]; omega

def awZ (T : Tab) (zs : List Int) (i : Nat) : Nat := if 0 ≤ nth zs i then awN T zs i else 0
/-- How long the machine may still run. -/
def meas (T : Tab) (zs : List Int) (d : Nat) : Nat := 17 * sumN (awZ T zs) T.zs.length + (17 - d)
theorem meas_pass {T : Tab} {zs : List Int} {hole d : Nat} (h : Hole T zs hole d) (hx : nth zs (fwd T.zs.length hole d) ≠ -1) : meas T zs (d + 1) < meas T zs d := by
  have := (h.full hx).1
  obtain ⟨⟨_, l2⟩, _⟩ := valid_facts h.val
  have l2 : zs.length ≤ 16 := l2
  rw [h.len] at l2
  unfold meas; omega
theorem meas_move {T : Tab} {zs : List Int} {hole d : Nat} (h : Hole T zs hole d) (hx : nth zs (fwd T.zs.length hole d) ≠ -1) (ha : ¬ awN T zs (fwd T.zs.length hole d) < d) : meas T (moved T zs hole d) 1 < meas T zs d := by
  obtain ⟨f1, f2, f3, f4⟩ := h.full hx
  have hl := h.lt
  have hk := h.klt
  have hn := h.nth_moved
  have hd := h.d1
  have hh : homeN T (nth zs (fwd T.zs.length hole d)) < T.zs.length := by
    have := homeN_lt h.val (nth zs (fwd T.zs.length hole d))
    rw [tab_home h.len] at this
    have e : (tab T zs).zs.length = T.zs.length := h.len
    omega
  have hd2 : dst T.zs.length (homeN T (nth zs (fwd T.zs.length hole d))) hole + d = awN T zs (fwd T.zs.length hole d) := by
    exact dst_cut hh hl f1 ha
  have s1 := sumN_one (f := awZ T zs) (g := fun j => if j = hole then awZ T (moved T zs hole d) hole else awZ T zs j) hl fun j _ hne => by simp [hne]
  have s2 := sumN_one (f := fun j => if j = hole then awZ T (moved T zs hole d) hole else awZ T zs j) (g := awZ T (moved T zs hole d)) hk fun j hj hne => by
    by_cases e : j = hole
    · subst e; simp
    · rw [if_neg e]
      unfold awZ awN
      rw [hn j, if_neg hne, if_neg e]
  have z1 : awZ T zs hole = 0 := by unfold awZ; rw [h.free]; rfl
  have z2 : awZ T (moved T zs hole d) (fwd T.zs.length hole d) = 0 := by unfold awZ; rw [hn, if_pos rfl]; rfl
  have z3 : awZ T zs (fwd T.zs.length hole d) = awN T zs (fwd T.zs.length hole d) := by unfold awZ; rw [if_pos f3]
  have z4 : awZ T (moved T zs hole d) hole = dst T.zs.length (homeN T (nth zs (fwd T.zs.length hole d))) hole := by
    unfold awZ awN
    rw [hn hole, if_neg (Ne.symm f2), if_pos rfl, if_pos f3]
  simp only [if_true, z1, f2, if_false, z2, z3, z4] at s1 s2
  unfold meas
  omega

theorem shiftF_enough (T : Tab) : ∀ (f g : Nat) (zs : List Int) (hole d : Nat), Hole T zs hole d → meas T zs d < f → meas T zs d < g → shiftF T f zs hole d = shiftF T g zs hole d := by
  intro f
  induction f with
  | zero => intro g zs hole d _ h; omega
  | succ f ih =>
    intro g zs hole d hH hf hg
    obtain ⟨g, rfl⟩ : ∃ k, g = k + 1 := ⟨g - 1, by omega⟩
    simp only [shiftF]
    split
    · rfl
    · rename_i hx
      split
      · have := meas_pass hH hx
        exact ih _ _ _ _ (hH.pass hx) (by omega) (by omega)
      · rename_i ha
        have := meas_move hH hx ha
        have e := ih g _ _ _ (hH.move hx) (by omega) (by omega)
        unfold moved at e
        rw [e]

/-- All of it. -/
def shiftR (T : Tab) (zs : List Int) (hole d : Nat) : List Int × List Int := shiftF T (meas T zs d + 1) zs hole d
theorem shift_stop {T : Tab} {zs : List Int} {hole d : Nat} (hx : nth zs (fwd T.zs.length hole d) = -1) : shiftR T zs hole d = ([], zs) := by
  unfold shiftR; simp only [shiftF]; rw [if_pos hx]
theorem shift_pass {T : Tab} {zs : List Int} {hole d : Nat} (h : Hole T zs hole d) (hx : nth zs (fwd T.zs.length hole d) ≠ -1) (ha : awN T zs (fwd T.zs.length hole d) < d) : shiftR T zs hole d = shiftR T zs hole (d + 1) := by
  have := meas_pass h hx
  unfold shiftR
  conv => lhs; simp only [shiftF]
  rw [if_neg hx, if_pos ha]
  exact shiftF_enough T _ _ _ _ _ (h.pass hx) (by omega) (by omega)
theorem shift_move {T : Tab} {zs : List Int} {hole d : Nat} (h : Hole T zs hole d) (hx : nth zs (fwd T.zs.length hole d) ≠ -1) (ha : ¬ awN T zs (fwd T.zs.length hole d) < d) :
    shiftR T zs hole d = (nth zs (fwd T.zs.length hole d) :: (shiftR T (moved T zs hole d) (fwd T.zs.length hole d) 1).1, (shiftR T (moved T zs hole d) (fwd T.zs.length hole d) 1).2) := by
  have := meas_move h hx ha
  unfold shiftR
  conv => lhs; simp only [shiftF]
  rw [if_neg hx, if_neg ha]
  have e := shiftF_enough T (meas T zs d) (meas T (moved T zs hole d) 1 + 1) _ _ _ (h.move hx) (by omega) (by omega)
  unfold moved at e
  unfold moved
  rw [e]

/-- No key's way leads over a free slot, but over the hole, of keys that lie d slots or more behind it. -/
def Ways (T : Tab) (zs : List Int) (hole d : Nat) : Prop := ∀ s, s < T.zs.length → 0 ≤ nth zs s → ∀ m, m < awN T zs s →
  nth zs (fwd T.zs.length (homeN T (nth zs s)) m) ≠ -1 ∨ (fwd T.zs.length (homeN T (nth zs s)) m = hole ∧ d ≤ dst T.zs.length hole s)

theorem Hole.home {T : Tab} {zs : List Int} {hole d : Nat} (h : Hole T zs hole d) (y : Int) : homeN T y < T.zs.length := by
  have := homeN_lt h.val y
  rw [tab_home h.len] at this
  have e : (tab T zs).zs.length = T.zs.length := h.len
  omega

theorem Ways.pass {T : Tab} {zs : List Int} {hole d : Nat} (w : Ways T zs hole d) (h : Hole T zs hole d) (hx : nth zs (fwd T.zs.length hole d) ≠ -1) (ha : awN T zs (fwd T.zs.length hole d) < d) : Ways T zs hole (d + 1) := by
  intro s hs h0 m hm
  rcases w s hs h0 m hm with c | ⟨c1, c2⟩
  · exact .inl c
  · right
    refine ⟨c1, ?_⟩
    obtain ⟨f1, f2, f3, f4⟩ := h.full hx
    by_cases e : s = fwd T.zs.length hole d
    · exfalso
      subst e
      have hl := h.lt
      have hh := h.home (nth zs (fwd T.zs.length hole d))
      unfold awN at hm ha
      generalize homeN T (nth zs (fwd T.zs.length hole d)) = hm' at *
      have hlt := dst_lt hh h.klt
      have e2 : dst T.zs.length hm' hole = m := by rw [← c1]; exact dst_fwd hh (by omega)
      exact dst_past hh hl f1 ha (by omega)
    · have hl := h.lt
      have : dst T.zs.length hole s ≠ d := fun e2 => e (by rw [← e2]; exact (fwd_dst hl hs).symm)
      omega
theorem Ways.move {T : Tab} {zs : List Int} {hole d : Nat} (w : Ways T zs hole d) (h : Hole T zs hole d) (hx : nth zs (fwd T.zs.length hole d) ≠ -1) (ha : ¬ awN T zs (fwd T.zs.length hole d) < d) : Ways T (moved T zs hole d) (fwd T.zs.length hole d) 1 := by
  obtain ⟨f1, f2, f3, f4⟩ := h.full hx
  have hl := h.lt
  have hk := h.klt
  have hn := h.nth_moved
  have hd := h.d1
  intro s hs h0 m hm
  by_cases c : nth (moved T zs hole d) (fwd T.zs.length (homeN T (nth (moved T zs hole d) s)) m) = -1
  · right
    rw [hn s] at h0
    split at h0
    · omega
    rename_i s1
    have hms : nth (moved T zs hole d) s = if s = hole then nth zs (fwd T.zs.length hole d) else nth zs s := by rw [hn s, if_neg s1]
    unfold awN at hm
    rw [hms] at hm c ⊢
    have hpos : 1 ≤ dst T.zs.length (fwd T.zs.length hole d) s := by
      generalize fwd T.zs.length hole d = k at *
      unfold dst; split <;> omega
    refine ⟨?_, hpos⟩
    by_cases s2 : s = hole
    · -- the shifted key
      rw [if_pos s2] at hm c ⊢
      subst s2
      exfalso
      have hh := h.home (nth zs (fwd T.zs.length s d))
      have hw := w _ hk f3 m
      unfold awN at hw ha
      have hml : m < dst T.zs.length (homeN T (nth zs (fwd T.zs.length s d))) (fwd T.zs.length s d) ∧ fwd T.zs.length (homeN T (nth zs (fwd T.zs.length s d))) m ≠ s ∧ fwd T.zs.length (homeN T (nth zs (fwd T.zs.length s d))) m ≠ fwd T.zs.length s d := by
        generalize homeN T (nth zs (fwd T.zs.length s d)) = hm' at *
        have hc := dst_cut hh hl f1 ha
        have hlt := dst_lt hh hk
        refine ⟨by omega, fun e => ?_, fun e => ?_⟩
        · have e2 : dst T.zs.length hm' s = m := by rw [← e]; exact dst_fwd hh (by omega)
          omega
        · have e2 : dst T.zs.length hm' (fwd T.zs.length s d) = m := by rw [← e]; exact dst_fwd hh (by omega)
          omega
      rw [hn, if_neg hml.2.2, if_neg hml.2.1] at c
      rcases hw hml.1 with c2 | ⟨c2, _⟩
      · exact c2 c
      · exact hml.2.1 c2
    · rw [if_neg s2] at hm c h0 ⊢
      rw [hn] at c
      split at c
      · assumption
      · rename_i c1
        split at c
        · omega
        · rename_i c2
          rcases w s hs h0 m hm with c3 | ⟨c3, _⟩
          · exact absurd c c3
          · exact absurd c3 c2
  · exact .inl c

/-- What the machine leaves. -/
structure Left (T : Tab) (zs : List Int) : Prop where
  val : validB (tab T zs) = true
  len : zs.length = T.zs.length
  plain : ∀ i, i < T.zs.length → nth zs i ≠ -2
  way : ∀ s, s < T.zs.length → 0 ≤ nth zs s → ∀ m, m < awN T zs s → nth zs (fwd T.zs.length (homeN T (nth zs s)) m) ≠ -1

theorem Ways.stop {T : Tab} {zs : List Int} {hole d : Nat} (w : Ways T zs hole d) (h : Hole T zs hole d) (hx : nth zs (fwd T.zs.length hole d) = -1) : Left T zs := by
  refine ⟨h.val, h.len, h.plain, fun s hs h0 m hm => ?_⟩
  rcases w s hs h0 m hm with c | ⟨c1, c2⟩
  · exact c
  · exfalso
    have hl := h.lt
    have hh := h.home (nth zs s)
    have hd := h.d1
    have hd2 := h.d2
    have hds := dst_lt hl hs
    by_cases e : dst T.zs.length hole s = d
    · rw [← e, fwd_dst hl hs] at hx; omega
    · have hw := w s hs h0
      unfold awN at hm hw
      have hk := h.klt
      -- the free slot lies on the way as well
      have hm2 : m + d < dst T.zs.length (homeN T (nth zs s)) s ∧ fwd T.zs.length (homeN T (nth zs s)) (m + d) = fwd T.zs.length hole d ∧ fwd T.zs.length hole d ≠ hole := by
        generalize homeN T (nth zs s) = hm' at *
        have hml : m < T.zs.length := by have := dst_lt hh hs; omega
        have e2 : dst T.zs.length hm' hole = m := by rw [← c1]; exact dst_fwd hh hml
        have hsum := dst_sum hh hl hs (by omega)
        have hsl := dst_lt hh hs
        refine ⟨by omega, by rw [fwd_add hh (by omega), c1], fun e3 => ?_⟩
        have := dst_fwd hl (m := d) (by omega)
        rw [e3] at this
        have e4 : dst T.zs.length hole hole = 0 := by unfold dst; simp
        omega
      rcases hw (m + d) hm2.1 with c3 | ⟨c3, _⟩
      · rw [hm2.2.1] at c3; exact c3 hx
      · rw [hm2.2.1] at c3; exact hm2.2.2 c3
theorem shift_left (T : Tab) : ∀ (f : Nat) (zs : List Int) (hole d : Nat), Hole T zs hole d → Ways T zs hole d → meas T zs d < f → Left T (shiftF T f zs hole d).2 := by
  intro f
  induction f with
  | zero => intro zs hole d _ _ h; omega
  | succ f ih =>
    intro zs hole d hH hW hf
    simp only [shiftF]
    split
    · rename_i hx; exact hW.stop hH hx
    · rename_i hx
      split
      · rename_i ha
        have := meas_pass hH hx
        exact ih _ _ _ (hH.pass hx) (hW.pass hH hx ha) (by omega)
      · rename_i ha
        have := meas_move hH hx ha
        exact ih (moved T zs hole d) _ _ (hH.move hx) (hW.move hH hx ha) (by omega)

/-- Where no way leads over the hole nothing is shifted. -/
theorem shift_none (T : Tab) : ∀ (f : Nat) (zs : List Int) (hole d : Nat), Hole T zs hole d → Left T zs → meas T zs d < f → shiftF T f zs hole d = ([], zs) := by
  intro f
  induction f with
  | zero => intro zs hole d _ _ h; omega
  | succ f ih =>
    intro zs hole d hH hL hf
    simp only [shiftF]
    split
    · rfl
    · rename_i hx
      obtain ⟨f1, f2, f3, f4⟩ := hH.full hx
      have hk := hH.klt
      have hl := hH.lt
      have hd := hH.d1
      have ha : awN T zs (fwd T.zs.length hole d) < d := by
        refine Nat.lt_of_not_le fun ha => ?_
        have hw := hL.way _ hk f3 (awN T zs (fwd T.zs.length hole d) - d) (by omega)
        have hh := hH.home (nth zs (fwd T.zs.length hole d))
        unfold awN at ha hw
        have e : fwd T.zs.length (homeN T (nth zs (fwd T.zs.length hole d))) (dst T.zs.length (homeN T (nth zs (fwd T.zs.length hole d))) (fwd T.zs.length hole d) - d) = hole := by
          have hc := dst_cut hh hl f1 (by omega)
          rw [show dst T.zs.length (homeN T (nth zs (fwd T.zs.length hole d))) (fwd T.zs.length hole d) - d = dst T.zs.length (homeN T (nth zs (fwd T.zs.length hole d))) hole by omega]
          exact fwd_dst hh hl
        rw [e] at hw
        exact hw hH.free
      rw [if_pos ha]
      have := meas_pass hH hx
      exact ih _ _ _ (hH.pass hx) hL (by omega)

end Go.Proofs.YtkdkdmjhhgllgaaGreatDoor

namespace Go.Proofs.YtkdkdmjhhgllgaaGreatDoor

/-- Sound, and without tombs. -/
def plainB (T : Tab) : Bool := soundB T && !decide (-2 ∈ T.zs)
theorem plain_parts {T : Tab} (h : plainB T = true) : soundB T = true ∧ validB T = true ∧ ∀ i, i < T.zs.length → nth T.zs i ≠ -2 := by
  simp only [plainB, Bool.and_eq_true, Bool.not_eq_true', decide_eq_false_iff_not] at h
  exact ⟨h.1, (sound_all.1 h.1).1, fun i hi e => h.2 (by rw [← e]; exact nth_mem hi)⟩

theorem tab_id {T : Tab} {zs : List Int} (h : zs = T.zs) : tab T zs = T := by subst h; rfl

/-- A plain table has no free slot on any way. -/
theorem plain_left {T : Tab} (h : plainB T = true) : Left T T.zs := by
  obtain ⟨hs, hv, hp⟩ := plain_parts h
  refine ⟨hv, rfl, hp, fun s hs' h0 m hm => ?_⟩
  have hf := (sound_all.1 hs).2 s hs' h0
  have hh := homeN_lt hv (nth T.zs s)
  obtain ⟨a1, a2⟩ := step_away hh hs'
  rw [found_iff hv a2 (by rw [a1]) h0] at hf
  rw [dst_mod hh hs'] at hf
  have hml := dst_lt hh hs'
  have := hf m hm
  unfold awN at hm
  rwa [fwd_step hh (by omega)] at this
theorem left_plain {T : Tab} {zs : List Int} (h : Left T zs) : plainB (tab T zs) = true := by
  have hl : (tab T zs).zs.length = T.zs.length := h.len
  have hs : soundB (tab T zs) = true := by
    refine sound_all.2 ⟨h.val, fun i hi h0 => ?_⟩
    rw [hl] at hi
    have h0' : 0 ≤ nth zs i := h0
    have hh := homeN_lt h.val (nth zs i)
    obtain ⟨a1, a2⟩ := step_away hh (by rw [hl]; exact hi)
    show 0 ≤ findI (tab T zs) (nth zs i)
    refine (found_iff h.val a2 (by rw [a1]; rfl) h0').2 fun m hm => ?_
    rw [dst_mod hh (by rw [hl]; exact hi)] at hm a2
    show nth zs _ ≠ -1
    rw [fwd_step hh (by omega), hl, tab_home h.len]
    rw [hl, tab_home h.len] at hm
    exact h.way i hi h0' m hm
  simp only [plainB, hs, Bool.true_and, Bool.not_eq_true', decide_eq_false_iff_not]
  intro hm
  obtain ⟨i, hi, e⟩ := mem_nth (zs := zs) hm
  exact h.plain i (by rw [← h.len]; exact hi) e

/-- A key's slot becomes the hole. -/
theorem hole_start {T : Tab} {zs : List Int} (h : Left T zs) {k : Nat} (hk : k < T.zs.length) (_h0 : 0 ≤ nth zs k) : Hole T (zs.set k (-1)) k 1 ∧ Ways T (zs.set k (-1)) k 1 := by
  have hkz : k < zs.length := by rw [h.len]; exact hk
  have hn := nth_set hkz (-1)
  obtain ⟨h1, h2⟩ := validB_iff.1 h.val
  have h2 : Good zs zs.length := h2
  constructor
  · refine ⟨validB_iff.2 ⟨?_, ?_⟩, by simp [h.len], hk, by rw [hn, if_pos rfl], Nat.le_refl _, by omega, fun i hi => ?_⟩
    · show headB (zs.set k (-1)).length T.t T.p = true
      rw [List.length_set]; exact h1
    · show Good (zs.set k (-1)) (zs.set k (-1)).length
      rw [List.length_set]
      intro i hi
      rw [hn i]
      refine ⟨?_, fun h0 j hj => ?_⟩
      · split
        · rfl
        · exact (h2 i hi).1
      · split at h0
        · omega
        · rename_i hne
          rw [hn j, if_neg hne]
          split
          · omega
          · exact (h2 i hi).2 h0 j hj
    · rw [hn i]
      split
      · omega
      · exact h.plain i hi
  · intro s hs hs0 m hm
    rw [hn s] at hs0
    split at hs0
    · omega
    rename_i hne
    have e : nth (zs.set k (-1)) s = nth zs s := by rw [hn, if_neg hne]
    unfold awN at hm
    rw [e] at hm ⊢
    rw [hn]
    split
    · rename_i e2
      right
      refine ⟨e2, ?_⟩
      rcases dst_cases T.zs.length k s with ⟨c, e3⟩ | ⟨c, e3⟩ <;> omega
    · left
      exact h.way s hs hs0 m hm

def shiftOk (T : Tab) (key : Int) : Bool := decide (0 ≤ findOf T key) && plainB T
/-- The keys that are shifted, and the slots behind that, of a table in whose slot k the key lies. -/
def shiftZ (T : Tab) (zs : List Int) (k : Nat) : List Int × List Int := shiftR T (zs.set k (-1)) k 1
def shiftL (T : Tab) (key : Int) : List Int := if shiftOk T key then (shiftZ T T.zs (findOf T key).toNat).1 else []
def shiftT (T : Tab) (key : Int) : Tab := if shiftOk T key then tab T (shiftZ T T.zs (findOf T key).toNat).2 else ⟨0, 0, []⟩

theorem shiftZ_left {T : Tab} {zs : List Int} (h : Left T zs) {k : Nat} (hk : k < T.zs.length) (h0 : 0 ≤ nth zs k) : Left T (shiftZ T zs k).2 := by
  obtain ⟨h1, h2⟩ := hole_start h hk h0
  exact shift_left T _ _ _ _ h1 h2 (Nat.lt_succ_self _)

structure ShiftSays (T : Tab) (key : Int) (k : Nat) : Prop where
  plain : plainB T = true
  val : validB T = true
  lt : k < T.zs.length
  find : findOf T key = k
  here : nth T.zs k = key
  key0 : 0 ≤ key ∧ key ≤ 99
  hole : Hole T (T.zs.set k (-1)) k 1
  left : Left T (shiftZ T T.zs k).2
theorem shift_says {T : Tab} {key : Int} (h : shiftOk T key = true) : ∃ k : Nat, ShiftSays T key k := by
  simp only [shiftOk, Bool.and_eq_true, decide_eq_true_eq] at h
  obtain ⟨hf, hp⟩ := h
  have hL := plain_left hp
  obtain ⟨_, hv, _⟩ := plain_parts hp
  obtain ⟨⟨l1, _⟩, _⟩ := valid_facts hv
  have hf0 := hf
  unfold findOf at hf
  split at hf
  · rename_i hvk
    simp only [Bool.and_eq_true] at hvk
    have hk := inB_iff.1 hvk.2
    obtain ⟨e1, e2⟩ := find_yes hf
    have hlt := lastOf_lt (T := T) l1 key
    have hfo : findOf T key = lastOf T key := by unfold findOf; rw [if_pos (by simp [hvk]), e1]
    have h0 : 0 ≤ nth T.zs (lastOf T key) := by rw [e2]; exact hk.1
    exact ⟨lastOf T key, hp, hv, hlt, hfo, e2, hk, (hole_start hL hlt h0).1, shiftZ_left hL hlt h0⟩
  · omega

/-- One key of a list. -/
def stepZ (T : Tab) (zs : List Int) (x : Int) : List Int := if 0 ≤ findI (tab T zs) x then (shiftZ T zs (findI (tab T zs) x).toNat).2 else zs
def shiftsTo (T : Tab) (ks : List Int) : Nat → List Int
  | 0 => T.zs
  | j + 1 => stepZ T (shiftsTo T ks j) (nth ks j)
def shiftsOk (T : Tab) (ks : List Int) : Bool := plainB T && keysB ks
def shiftsT (T : Tab) (ks : List Int) : Tab := if shiftsOk T ks then tab T (shiftsTo T ks ks.length) else ⟨0, 0, []⟩

/-- A key that is found lies where it is found. -/
theorem left_find {T : Tab} {zs : List Int} (h : Left T zs) {x : Int} (hf : 0 ≤ findI (tab T zs) x) : (findI (tab T zs) x).toNat < T.zs.length ∧ nth zs (findI (tab T zs) x).toNat = x ∧ ((findI (tab T zs) x).toNat : Int) = findI (tab T zs) x := by
  have l1 : 1 ≤ (tab T zs).zs.length := (valid_facts h.val).1.1
  obtain ⟨e1, e2⟩ := find_yes hf
  have hlt := lastOf_lt (T := tab T zs) l1 x
  have hl : (tab T zs).zs.length = T.zs.length := h.len
  rw [e1]
  rw [Int.toNat_natCast]
  exact ⟨by rw [← hl]; exact hlt, e2, rfl⟩
theorem stepZ_left {T : Tab} {zs : List Int} (h : Left T zs) {x : Int} (h0 : 0 ≤ x) : Left T (stepZ T zs x) := by
  unfold stepZ
  split
  · rename_i hf
    obtain ⟨a, b, _⟩ := left_find h hf
    exact shiftZ_left h a (by rw [b]; exact h0)
  · exact h
theorem keysB_nth {ks : List Int} (h : keysB ks = true) {j : Nat} (hj : j < ks.length) : 0 ≤ nth ks j ∧ nth ks j ≤ 99 := by
  simp only [keysB, Bool.and_eq_true, List.all_eq_true] at h
  exact inB_iff.1 (h.2 _ (nth_mem hj))
theorem shiftsTo_left {T : Tab} {ks : List Int} (h : shiftsOk T ks = true) : ∀ j, j ≤ ks.length → Left T (shiftsTo T ks j) := by
  simp only [shiftsOk, Bool.and_eq_true] at h
  intro j
  induction j with
  | zero => intro _; exact plain_left h.1
  | succ j ih => intro hj; exact stepZ_left (ih (by omega)) (keysB_nth h.2 (by omega)).1

/-- A key that was put last is shifted away, and nothing else. -/
theorem shift_back {T : Tab} {key : Int} (h : putOk T key = true) (ht : ∀ i, i < T.zs.length → nth T.zs i ≠ -2) :
    shiftOk (putT T key) key = true ∧ shiftL (putT T key) key = [] ∧ shiftT (putT T key) key = T := by
  obtain ⟨hp, hs⟩ := putOk_parts h
  have P := put_says h
  have e : putT T key = putAt T (placeI T key).toNat key := by simp [putT, h]
  generalize (placeI T key).toNat = k at P e
  rw [e]
  have hL : Left T T.zs := plain_left (by simp only [plainB, hs, Bool.true_and, Bool.not_eq_true', decide_eq_false_iff_not]; intro hm; obtain ⟨i, hi, e⟩ := mem_nth hm; exact ht i hi e)
  have hlow : nth T.zs k = -1 := by
    have h1 := P.low
    have h2 := ht k P.lt
    have h3 := (valid_slot P.val P.lt).1
    omega
  have hfo : findOf (putAt T k key) key = k := by
    unfold findOf
    rw [if_pos (by rw [P.val2, inB_true P.key0]; rfl), P.find2]
  have hpl : plainB (putAt T k key) = true := by
    simp only [plainB, P.sound2, Bool.true_and, Bool.not_eq_true', decide_eq_false_iff_not]
    intro hm
    obtain ⟨i, hi, e⟩ := mem_nth hm
    rw [putAt_len] at hi
    have : nth (putAt T k key).zs i = if i = k then key else nth T.zs i := nth_set P.lt _ _
    rw [this] at e
    split at e
    · have := P.key0; omega
    · exact ht i hi e
  have hok : shiftOk (putAt T k key) key = true := by
    simp only [shiftOk, hpl, hfo, Bool.and_true, decide_eq_true_eq]; omega
  have hset : (putAt T k key).zs.set k (-1) = T.zs := by
    refine nth_ext (by simp [putAt]) fun i hi => ?_
    simp only [putAt, List.set_set]
    rw [nth_set P.lt]
    split
    · rename_i e; subst e; exact hlow.symm
    · rfl
  have hH : Hole (putAt T k key) T.zs k 1 := by
    have hlp : 1 ≤ T.zs.length := (valid_facts P.val).1.1
    exact ⟨P.val, by simp [putAt], by rw [putAt_len]; exact P.lt, hlow, Nat.le_refl _, by rw [putAt_len]; exact hlp, fun i hi => ht i (by rwa [putAt_len] at hi)⟩
  have hL2 : Left (putAt T k key) T.zs := by
    refine ⟨P.val, by simp [putAt], fun i hi => ht i (by rwa [putAt_len] at hi), fun s hs h0 m hm => ?_⟩
    unfold awN at hm
    rw [putAt_len] at hs hm ⊢
    rw [putAt_home] at hm ⊢
    exact hL.way s hs h0 m hm
  have hz : shiftZ (putAt T k key) (putAt T k key).zs k = ([], T.zs) := by
    unfold shiftZ shiftR
    rw [hset]
    exact shift_none _ _ _ _ _ hH hL2 (Nat.lt_succ_self _)
  refine ⟨hok, ?_, ?_⟩
  · unfold shiftL
    rw [if_pos hok, hfo]
    show (shiftZ _ _ k).1 = _
    rw [hz]
  · unfold shiftT
    rw [if_pos hok, hfo]
    show tab _ (shiftZ _ _ k).2 = _
    rw [hz]
    rfl

end Go.Proofs.YtkdkdmjhhgllgaaGreatDoor

namespace Go.Proofs.YtkdkdmjhhgllgaaGreatDoor

/-- The key of slot s stands ahead of another one that has come d slots far. -/
def aheadB (T : Tab) (s : Nat) (key : Int) (d : Nat) : Bool := decide ((d : Int) < awayOf T s) || ((awayOf T s == (d : Int)) && decide (nth T.zs s < key))
/-- As the program asks it. -/
theorem ahead_if (T : Tab) (s : Nat) (key : Int) (d : Nat) : aheadB T s key d = if awayOf T s = (d : Int) then decide (nth T.zs s < key) else decide (awayOf T s > (d : Int)) := by
  unfold aheadB
  by_cases h : awayOf T s = (d : Int)
  · rw [if_pos h, h]; simp
  · rw [if_neg h, beq_eq_false_iff_ne.2 h]; simp
theorem ahead_free {T : Tab} {s : Nat} {key : Int} {d : Nat} (h : awayOf T s < 0) : aheadB T s key d = false := by
  unfold aheadB
  rw [beq_eq_false_iff_ne.2 (by omega)]
  simp; omega

/-- How many slots a key goes past. -/
def passN (T : Tab) (key : Int) : Nat := goN (fun d => !aheadB T (stepS T (homeN T key) d) key d) T.zs.length

/-- The key of slot i has passed all slots ahead of it rightly. -/
def wayB (T : Tab) (i : Nat) (j : Nat) : Bool := (List.range j).all fun d => aheadB T (stepS T (homeN T (nth T.zs i)) d) (nth T.zs i) d
def slotB (T : Tab) (i : Nat) : Bool := decide (nth T.zs i < 0) || wayB T i (awN T T.zs i)
def fairTo (T : Tab) (k : Nat) : Bool := (List.range k).all fun i => slotB T i
def fairB (T : Tab) : Bool := plainB T && decide (-1 ∈ T.zs) && fairTo T T.zs.length

theorem wayB_iff {T : Tab} {i j : Nat} : wayB T i j = true ↔ ∀ d, d < j → aheadB T (stepS T (homeN T (nth T.zs i)) d) (nth T.zs i) d = true := by
  simp [wayB, List.all_eq_true, List.mem_range]
theorem fairTo_iff {T : Tab} {k : Nat} : fairTo T k = true ↔ ∀ i, i < k → slotB T i = true := by
  simp [fairTo, List.all_eq_true, List.mem_range]
theorem fairTo_succ (T : Tab) (k : Nat) : fairTo T (k + 1) = (fairTo T k && slotB T k) := by
  simp [fairTo, List.range_succ]
theorem wayB_succ (T : Tab) (i j : Nat) : wayB T i (j + 1) = (wayB T i j && aheadB T (stepS T (homeN T (nth T.zs i)) j) (nth T.zs i) j) := by
  simp [wayB, List.range_succ]
theorem fair_not {T : Tab} {k : Nat} (hk : k < T.zs.length) (h : slotB T k = false) : fairTo T T.zs.length = false := by
  cases hf : fairTo T T.zs.length
  · rfl
  · have := fairTo_iff.1 hf k hk
    rw [h] at this; cases this
theorem way_not {T : Tab} {i d j : Nat} (hd : d < j) (h : aheadB T (stepS T (homeN T (nth T.zs i)) d) (nth T.zs i) d = false) : wayB T i j = false := by
  cases hf : wayB T i j
  · rfl
  · have := wayB_iff.1 hf d hd
    rw [h] at this; cases this

/-- Where slot i holds a key it is the one that lies so far from its home. -/
theorem away_self {T : Tab} (hv : validB T = true) {i : Nat} (hi : i < T.zs.length) (h0 : 0 ≤ nth T.zs i) : awayOf T i = awN T T.zs i ∧ awN T T.zs i < T.zs.length ∧ stepS T (homeN T (nth T.zs i)) (awN T T.zs i) = i := by
  have hh := homeN_lt hv (nth T.zs i)
  refine ⟨awN_of (T := T) hv rfl hi h0, dst_lt hh hi, ?_⟩
  have hd := dst_lt hh hi
  rw [fwd_step hh (by unfold awN; omega)]
  exact fwd_dst hh hi
/-- A key goes past just the slots ahead of its own. -/
theorem pass_self {T : Tab} (hv : validB T = true) {i : Nat} (hi : i < T.zs.length) (h0 : 0 ≤ nth T.zs i) : (passN T (nth T.zs i) = awN T T.zs i) ↔ slotB T i = true := by
  obtain ⟨e1, e2, e3⟩ := away_self hv hi h0
  have hn : ¬ nth T.zs i < 0 := by omega
  have hself : aheadB T (stepS T (homeN T (nth T.zs i)) (awN T T.zs i)) (nth T.zs i) (awN T T.zs i) = false := by
    rw [e3]; unfold aheadB; rw [e1]; simp
  simp only [slotB, hn, decide_false, Bool.false_or]
  rw [wayB_iff]
  unfold passN
  constructor
  · intro h d hd
    rw [← h] at hd
    have := goN_free hd
    simpa using this
  · intro h
    exact goN_eq e2 (fun d hd => by simp [h d hd]) (by simp [hself])

theorem fair_parts {T : Tab} (h : fairB T = true) : plainB T = true ∧ -1 ∈ T.zs ∧ fairTo T T.zs.length = true := by
  simp only [fairB, Bool.and_eq_true, decide_eq_true_eq] at h
  exact ⟨h.1.1, h.1.2, h.2⟩
/-- Some slot is free: somewhere on the way around from any home. -/
theorem free_step {T : Tab} {h : Nat} (hh : h < T.zs.length) (hf : -1 ∈ T.zs) : ∃ d, d < T.zs.length ∧ nth T.zs (stepS T h d) = -1 := by
  obtain ⟨i, hi, e⟩ := mem_nth hf
  obtain ⟨a1, a2⟩ := step_away hh hi
  exact ⟨_, a2, by rw [a1]; exact e⟩
theorem free_away {T : Tab} {i : Nat} (h : nth T.zs i < 0) : awayOf T i = -1 := (awayOf_no (.inr (.inr (by rw [Int.toNat_natCast]; exact h)))).symm
/-- In a table with a free slot no key goes past all slots. -/
theorem pass_lt {T : Tab} (hv : validB T = true) (hf : -1 ∈ T.zs) (key : Int) : passN T key < T.zs.length := by
  obtain ⟨d, hd, e⟩ := free_step (homeN_lt hv key) hf
  refine Nat.lt_of_not_le fun hn => ?_
  have hle := goN_le (fun d => !aheadB T (stepS T (homeN T key) d) key d) T.zs.length
  unfold passN at hn
  have := goN_free (p := fun d => !aheadB T (stepS T (homeN T key) d) key d) (n := T.zs.length) (j := d) (by omega)
  rw [ahead_free (by rw [free_away (by omega)]; omega)] at this
  simp at this
/-- What the model asks at each slot: free, the key itself, or not ahead: is just the last of these. -/
theorem stop_same {T : Tab} (hv : validB T = true) {key : Int} (h0 : 0 ≤ key) {d : Nat} (hd : d < T.zs.length) :
    (nth T.zs (stepS T (homeN T key) d) = -1 ∨ nth T.zs (stepS T (homeN T key) d) = key) → aheadB T (stepS T (homeN T key) d) key d = false := by
  have hh := homeN_lt hv key
  rintro (h | h)
  · exact ahead_free (by rw [free_away (by omega)]; omega)
  · have := away_step hv hd h h0
    unfold aheadB
    rw [this, h]; simp

def fairVis (T : Tab) (key : Int) : Int := if fairB T && inB key 0 99 then (passN T key : Int) + 1 else -1

end Go.Proofs.YtkdkdmjhhgllgaaGreatDoor

namespace Go.Proofs.YtkdkdmjhhgllgaaGreatDoor

/-- The slot in front of a slot. -/
def prevS (T : Tab) (i : Nat) : Nat := (i + T.zs.length - 1) % T.zs.length
theorem prevS_lt {T : Tab} (hn : 1 ≤ T.zs.length) (i : Nat) : prevS T i < T.zs.length := Nat.mod_lt _ (by omega)
theorem prev_cast {T : Tab} (hn : 1 ≤ T.zs.length) (i : Nat) : ((i : Int) + (T.zs.length : Int) - 1) % (T.zs.length : Int) = (prevS T i : Int) := by
  have : ((i : Int) + (T.zs.length : Int) - 1) = ((i + T.zs.length - 1 : Nat) : Int) := by omega
  rw [this, prevS, Int.natCast_emod]

/-- A run opens at a slot. -/
def startB (T : Tab) (i : Nat) : Bool := (nth T.zs i != -1) && !(decide (1 < T.zs.length) && (nth T.zs (prevS T i) != -1))
/-- How many slots in a row are not free, from a slot on. -/
def sizeFrom (T : Tab) (i : Nat) : Nat := goN (fun j => nth T.zs (stepS T i j) == -1) T.zs.length
def runsTo (T : Tab) (k : Nat) : List (Nat × Nat) := ((List.range k).filter (startB T)).map fun i => (i, sizeFrom T i)
/-- The runs of a valid table. -/
def runsL (T : Tab) : List (Nat × Nat) := if (runsTo T T.zs.length).length = 0 ∧ nth T.zs 0 ≠ -1 then [(0, T.zs.length)] else runsTo T T.zs.length

theorem runsTo_yes {T : Tab} {k : Nat} (h : startB T k = true) : runsTo T (k + 1) = runsTo T k ++ [(k, sizeFrom T k)] := by
  simp [runsTo, List.range_succ, List.filter_append, h]
theorem runsTo_no {T : Tab} {k : Nat} (h : startB T k = false) : runsTo T (k + 1) = runsTo T k := by
  simp [runsTo, List.range_succ, List.filter_append, h]
theorem runsTo_len (T : Tab) (k : Nat) : (runsTo T k).length ≤ k := by
  simp only [runsTo, List.length_map]
  exact Nat.le_trans (List.length_filter_le _ _) (by simp)

end Go.Proofs.YtkdkdmjhhgllgaaGreatDoor

namespace Go.Proofs.YtkdkdmjhhgllgaaGreatDoor

/-- How many are counted up to the first that stops, this one included, or all. -/
def cntN (p : Nat → Bool) (n : Nat) : Nat := min (goN p n + 1) n
theorem cntN_stop {p : Nat → Bool} {n i : Nat} (hi : i < n) (hf : ∀ j, j < i → p j = false) (hp : p i = true) : cntN p n = i + 1 := by
  unfold cntN
  rw [goN_eq hi hf hp]
  omega
theorem cntN_all {p : Nat → Bool} {n : Nat} (hf : ∀ j, j < n → p j = false) : cntN p n = n := by
  unfold cntN
  rw [goN_all hf]
  omega
theorem cntN_bounds {p : Nat → Bool} {n : Nat} (hn : 1 ≤ n) : 1 ≤ cntN p n ∧ cntN p n ≤ n := by
  unfold cntN
  omega
theorem cntN_free {p : Nat → Bool} {n i : Nat} (hi : i + 1 < cntN p n) : p i = false := goN_free (n := n) (by unfold cntN at hi; omega)
theorem cntN_last (p : Nat → Bool) (n : Nat) : p (cntN p n - 1) = true ∨ (cntN p n = n ∧ ∀ j, j < n → p j = false) := by
  by_cases h : goN p n < n
  · left
    have := goN_stop h
    rw [show cntN p n - 1 = goN p n by unfold cntN; omega]
    exact this
  · right
    have := goN_le p n
    exact ⟨by unfold cntN; omega, fun j hj => goN_free (n := n) (by omega)⟩

/-- A slot at which one stops who looks for no key in particular. -/
def freeAt (T : Tab) (h d : Nat) : Bool := nth T.zs (stepS T h d) == -1
def missN (T : Tab) (h : Nat) : Nat := cntN (freeAt T h) T.zs.length
def missI (T : Tab) (home : Int) : Int := if validB T && inB home 0 (T.zs.length - 1) then missN T home.toNat else -1
/-- What is visited from the first k homes on. -/
def missTo (T : Tab) (k : Nat) : Nat := ((List.range k).map (missN T)).sum
theorem missTo_succ (T : Tab) (k : Nat) : missTo T (k + 1) = missTo T k + missN T k := by
  simp [missTo, List.range_succ]
theorem missTo_le {T : Tab} (l1 : 1 ≤ T.zs.length) (k : Nat) : missTo T k ≤ k * T.zs.length := by
  induction k with
  | zero => simp [missTo]
  | succ k ih =>
    have := (cntN_bounds (p := freeAt T k) l1).2
    rw [missTo_succ, Nat.succ_mul]
    unfold missN
    omega
def missAll (T : Tab) : Int := if validB T then missTo T T.zs.length else -1
/-- The first of the first k homes from which most are visited. -/
def worstTo (T : Tab) : Nat → Nat
  | 0 => 0
  | k + 1 => if missN T (worstTo T k) < missN T k then k else worstTo T k
theorem worstTo_le (T : Tab) (k : Nat) : worstTo T k ≤ k := by
  induction k with
  | zero => exact Nat.le_refl _
  | succ k ih =>
    unfold worstTo
    split <;> omega
theorem worstTo_lt {T : Tab} {k : Nat} (hk : 1 ≤ k) : worstTo T k < k := by
  induction k with
  | zero => omega
  | succ k ih =>
    unfold worstTo
    split
    · omega
    · have := worstTo_le T k
      omega
def worstI (T : Tab) : Int := if validB T then worstTo T T.zs.length else -1
/-- What is visited to find some keys. -/
def hitsL (T : Tab) (l : List Int) : Int := (l.map (visOf T)).sum
theorem hitsL_snoc (T : Tab) (l : List Int) (x : Int) : hitsL T (l ++ [x]) = hitsL T l + visOf T x := by
  simp [hitsL]
theorem hitsL_perm {T : Tab} {l m : List Int} (h : l.Perm m) : hitsL T l = hitsL T m := by
  unfold hitsL
  induction h with
  | nil => rfl
  | cons x _ ih => simp [ih]
  | swap x y l => simp; omega
  | trans _ _ a b => exact a.trans b
def hitI (T : Tab) : Int := if soundB T then hitsL T (sortU T.zs) else -1
theorem visOf_bounds {T : Tab} (hv : validB T = true) {key : Int} (hk : inB key 0 99 = true) : 1 ≤ visOf T key ∧ visOf T key ≤ 16 := by
  obtain ⟨⟨l1, l2⟩, _⟩ := valid_facts hv
  have := visN_bounds l1 key (homeN T key)
  simp [visOf, hv, hk]
  omega
theorem hitsL_bounds {T : Tab} (hv : validB T = true) {l : List Int} (hl : ∀ x ∈ l, inB x 0 99 = true) : 0 ≤ hitsL T l ∧ hitsL T l ≤ 16 * l.length := by
  induction l with
  | nil => simp [hitsL]
  | cons x l ih =>
    have h1 := ih fun y hy => hl y (List.mem_cons_of_mem _ hy)
    have h2 := visOf_bounds hv (hl x (List.mem_cons_self ..))
    simp only [hitsL, List.map_cons, List.sum_cons, List.length_cons] at h1 ⊢
    omega

/-- A slot at which one stops who looks in a fair table for a key greater than all with a home. -/
def nearAt (T : Tab) (h d : Nat) : Bool := decide (awayOf T (stepS T h d : Nat) < (d : Int))
def fmissN (T : Tab) (h : Nat) : Nat := cntN (nearAt T h) T.zs.length
def fmissI (T : Tab) (home : Int) : Int := if fairB T && inB home 0 (T.zs.length - 1) then fmissN T home.toNat else -1

end Go.Proofs.YtkdkdmjhhgllgaaGreatDoor

namespace Go.Proofs.YtkdkdmjhhgllgaaGreatDoor

/-- Two lists with the same keys have the same sorted keys. -/
theorem sortU_same {xs ys : List Int} (h : ∀ x, 0 ≤ x → x ≤ 99 → (x ∈ xs ↔ x ∈ ys)) : sortU xs = sortU ys := by
  unfold sortU sortTo
  congr 1
  refine List.filter_congr fun k hk => ?_
  have hk := List.mem_range.1 hk
  have e : ∀ zs : List Int, (0 ≤ fnd zs (k : Int)) ↔ (k : Int) ∈ zs := fun zs => by
    rcases fnd_cases zs (k : Int) with ⟨h1, h2⟩ | ⟨j, hj, h1, h2, _⟩
    · constructor
      · intro h0; omega
      · intro hm
        obtain ⟨i, hi, e⟩ := mem_nth hm
        exact absurd e (h2 i hi)
    · constructor
      · intro _; rw [← h2]; exact nth_mem hj
      · intro _; omega
  have h1 := h (k : Int) (by omega) (by omega)
  rw [Bool.eq_iff_iff, decide_eq_true_eq, decide_eq_true_eq, e, e]
  exact h1

/-- What has been put is there. -/
theorem put_has {C : Tab} {x : Int} (h : putOk C x = true) : (∃ i, i < C.zs.length ∧ nth (putT C x).zs i = x) ∧ ∀ i, i < C.zs.length → 0 ≤ nth C.zs i → nth (putT C x).zs i = nth C.zs i := by
  have P := put_says h
  have eU : putT C x = putAt C (placeI C x).toNat x := by simp [putT, h]
  rw [eU]
  generalize (placeI C x).toNat = k at P
  have hnth : ∀ i, nth (putAt C k x).zs i = if i = k then x else nth C.zs i := fun i => nth_set P.lt x i
  refine ⟨⟨k, P.lt, by rw [hnth, if_pos rfl]⟩, fun i hi h0 => ?_⟩
  rw [hnth, if_neg]
  rintro rfl
  have := P.low
  omega
theorem clean_has {T : Tab} (hv : validB T = true) (k : Nat) (hk : k ≤ T.zs.length) : ∀ x, x ∈ keysLL (T.zs.take k) → ∃ i, i < T.zs.length ∧ nth (putsT T (keysLL (T.zs.take k))).zs i = x := by
  induction k with
  | zero => intro x hx; simp [keysLL] at hx
  | succ k ih =>
    have ih := ih (by omega)
    have hlt : k < T.zs.length := by omega
    have CI := clean_to hv k (by omega)
    by_cases h0 : 0 ≤ nth T.zs k
    · obtain ⟨hok, hput⟩ := clean_put hv hlt rfl h0
      obtain ⟨h1, h2⟩ := put_has hok
      rw [CI.len] at h1 h2
      rw [hput]
      have e1 : T.zs.take (k + 1) = T.zs.take k ++ [nth T.zs k] := by
        rw [List.take_add_one, nth, List.getElem?_eq_getElem hlt]; rfl
      intro x hx
      rw [e1, keysLL, List.filter_append] at hx
      rcases List.mem_append.1 hx with hx | hx
      · obtain ⟨i, hi, e⟩ := ih x hx
        have hx0 := (inB_iff.1 (List.mem_filter.1 hx).2).1
        exact ⟨i, hi, by rw [h2 i hi (by omega), e]⟩
      · have := (List.mem_filter.1 hx).1
        obtain rfl := List.mem_singleton.1 this
        exact h1
    · rw [clean_skip hlt (by omega)]
      exact ih
/-- The clean table has the same keys. -/
theorem clean_keys {T : Tab} (hs : soundB T = true) : validB (cleanT T) = true ∧ soundB (cleanT T) = true ∧ ∀ x : Int, 0 ≤ x → x ≤ 99 → (x ∈ (cleanT T).zs ↔ x ∈ T.zs) := by
  have hv := (sound_all.1 hs).1
  have CI := clean_to hv T.zs.length (Nat.le_refl _)
  have CH := clean_has hv T.zs.length (Nat.le_refl _)
  rw [List.take_length] at CI CH
  rw [cleanT_yes hs]
  refine ⟨(sound_all.1 CI.snd).1, CI.snd, fun x h0 h9 => ⟨fun hm => ?_, fun hm => ?_⟩⟩
  · obtain ⟨i, hi, rfl⟩ := mem_nth hm
    rw [CI.len] at hi
    exact (List.mem_filter.1 (CI.keys i hi h0)).1
  · obtain ⟨i, hi, e⟩ := CH x (List.mem_filter.2 ⟨hm, inB_true ⟨h0, h9⟩⟩)
    rw [← e]
    exact nth_mem (by rw [CI.len]; exact hi)

/-- A key that is dropped and put again: it is found as soon, and the clean tables have the same keys. -/
structure AgainFacts (T : Tab) (key : Int) (V : Tab) : Prop where
  put : putOk (dropT T key) key = true
  le : visOf V key ≤ visOf T key
  snd : soundB V = true
  keys : sortU (cleanT T).zs = sortU (cleanT V).zs
theorem again_facts {T : Tab} {key : Int} (h : dropOk T key = true) : AgainFacts T key (putT (dropT T key) key) := by
  have F := drop_facts h
  obtain ⟨k, D⟩ := drop_says h
  have hU : dropT T key = putAt T k (-2) := D.eq.1
  have hput := F.put
  have P := put_says hput
  have hH := put_has hput
  have hpl := (putOk_parts hput).1
  obtain ⟨j, hj, e1, e2, e3⟩ := place_yes hpl
  have eV : putT (dropT T key) key = putAt (dropT T key) (placeI (dropT T key) key).toNat key := by simp [putT, hput]
  obtain ⟨⟨l1, l2⟩, _⟩ := valid_facts D.val
  have hkey : inB key 0 99 = true := inB_true D.key0
  have hh := homeN_lt D.val key
  obtain ⟨a1, a2⟩ := step_away hh D.lt
  have hnu : ∀ i, nth (dropT T key).zs i = if i = k then -2 else nth T.zs i := fun i => by rw [hU]; exact nth_set D.lt _ i
  have hhU : homeN (dropT T key) key = homeN T key := by rw [hU, putAt_home]
  have hsU : ∀ a i, stepS (dropT T key) a i = stepS T a i := fun a i => by rw [hU, putAt_step]
  have hlU : (dropT T key).zs.length = T.zs.length := F.len
  -- the steps to the key in T
  have hT := (found_iff D.val a2 (by rw [a1]; exact D.here) D.key0.1).1 (by rw [D.find.2]; omega)
  have hg := (valid_facts D.val).2.2.2
  have hne : ∀ i, i < (k + T.zs.length - homeN T key) % T.zs.length → nth T.zs (stepS T (homeN T key) i) ≠ key := fun i hi e => by
    have := hg.inj (stepS_lt l1 _ _) D.lt (e.trans D.here.symm) (by rw [e]; exact D.key0.1)
    have := step_inj hh (by omega) a2 (this.trans a1.symm)
    omega
  have hvT := (find_at (T := T) (key := key) a2 (fun i hi => stop_is (hT i hi) (hne i hi)) (by rw [a1]; exact D.here) D.key0.1).1
  have hj0 : j ≤ (k + T.zs.length - homeN T key) % T.zs.length := Nat.not_lt.1 fun hlt => by
    have := e3 _ hlt
    rw [hhU, hsU, a1, hnu, if_pos rfl] at this
    omega
  rw [hhU, hsU] at e1 e2
  have em : (placeI (dropT T key) key).toNat = stepS T (homeN T key) j := by rw [e1]; rfl
  rw [em] at eV
  have hml := stepS_lt (T := T) l1 (homeN T key) j
  have hnv : ∀ i, nth (putT (dropT T key) key).zs i = if i = stepS T (homeN T key) j then key else nth (dropT T key).zs i := fun i => by
    rw [eV]
    exact nth_set (by rw [hlU]; exact hml) key i
  have hhV : homeN (putT (dropT T key) key) key = homeN T key := by rw [eV, putAt_home, hhU]
  have hsV : ∀ a i, stepS (putT (dropT T key) key) a i = stepS T a i := fun a i => by rw [eV, putAt_step, hsU]
  have hlV : (putT (dropT T key) key).zs.length = T.zs.length := by rw [eV, putAt_len, hlU]
  have hvV := (find_at (T := putT (dropT T key) key) (key := key) (j := j) (by rw [hlV]; omega) (fun i hi => by
    have h3 := e3 i hi
    rw [hhU, hsU] at h3
    have hnei : stepS T (homeN T key) i ≠ stepS T (homeN T key) j := fun e => by
      have := step_inj hh (by omega) (by omega) e
      omega
    refine stop_is ?_ ?_
    · rw [hhV, hsV, hnv, if_neg hnei]
      omega
    · rw [hhV, hsV, hnv, if_neg hnei, hnu]
      split
      · have := D.key0; omega
      · exact hne i (by omega)) (by rw [hhV, hsV, hnv, if_pos rfl]) D.key0.1).1
  have vV : validB (putT (dropT T key) key) = true := (sound_all.1 F.snd2).1
  refine ⟨hput, ?_, F.snd2, ?_⟩
  · rw [visOf, visOf, if_pos (by rw [vV, hkey]; rfl), if_pos (by rw [D.val, hkey]; rfl), hvT, hvV]
    omega
  · refine sortU_same fun x h0 h9 => ?_
    rw [(clean_keys D.snd).2.2 x h0 h9, (clean_keys F.snd2).2.2 x h0 h9]
    constructor
    · intro hm
      obtain ⟨i, hi, e⟩ := mem_nth hm
      by_cases hik : i = k
      · subst hik
        have : x = key := e.symm.trans D.here
        subst this
        obtain ⟨i2, h2, e2⟩ := hH.1
        have hm2 := nth_mem (zs := (putT (dropT T x) x).zs) (i := i2) (by rw [hlV, ← hlU]; exact h2)
        rw [e2] at hm2
        exact hm2
      · have h3 : nth (dropT T key).zs i = x := by rw [hnu, if_neg hik, e]
        have := hH.2 i (by rw [hlU]; exact hi) (by rw [h3]; exact h0)
        rw [h3] at this
        rw [← this]; exact nth_mem (by rw [hlV]; exact hi)
    · intro hm
      obtain ⟨i, hi, e⟩ := mem_nth hm
      rw [hlV] at hi
      rw [hnv] at e
      split at e
      · subst e; rw [← D.here]; exact nth_mem D.lt
      · rw [hnu] at e
        split at e
        · omega
        · rw [← e]; exact nth_mem hi

end Go.Proofs.YtkdkdmjhhgllgaaGreatDoor

namespace Go.Proofs.YtkdkdmjhhgllgaaGreatDoor

/-- The key that is on its way after d steps, and how far it has come. -/
def cm (T : Tab) (key : Int) : Nat → Int × Nat
  | 0 => (key, 0)
  | d + 1 => if aheadB T (stepS T (homeN T key) d) (cm T key d).1 (cm T key d).2 then ((cm T key d).1, (cm T key d).2 + 1) else (nth T.zs (stepS T (homeN T key) d), awN T T.zs (stepS T (homeN T key) d) + 1)
/-- The slots, the keys that have settled and those that have given way. -/
def outF (T : Tab) (key : Int) : Nat → List Int
  | 0 => T.zs
  | d + 1 => if aheadB T (stepS T (homeN T key) d) (cm T key d).1 (cm T key d).2 then outF T key d else (outF T key d).set (stepS T (homeN T key) d) (cm T key d).1
def setF (T : Tab) (key : Int) : Nat → List Int
  | 0 => []
  | d + 1 => if aheadB T (stepS T (homeN T key) d) (cm T key d).1 (cm T key d).2 then setF T key d else setF T key d ++ [(cm T key d).1]
def movF (T : Tab) (key : Int) : Nat → List Int
  | 0 => []
  | d + 1 => if aheadB T (stepS T (homeN T key) d) (cm T key d).1 (cm T key d).2 then movF T key d else movF T key d ++ [nth T.zs (stepS T (homeN T key) d)]
/-- The first free slot. -/
def endF (T : Tab) (key : Int) : Nat := goN (fun d => nth T.zs (stepS T (homeN T key) d) == -1) T.zs.length
def fputZ (T : Tab) (key : Int) : List Int := (outF T key (endF T key)).set (stepS T (homeN T key) (endF T key)) (cm T key (endF T key)).1
def fputL (T : Tab) (key : Int) : List Int := movF T key (endF T key)

theorem set_mov (T : Tab) (key : Int) (d : Nat) : setF T key d ++ [(cm T key d).1] = key :: movF T key d := by
  induction d with
  | zero => rfl
  | succ d ih =>
    simp only [setF, cm, movF]
    split
    · exact ih
    · rw [ih]; rfl
theorem outF_len (T : Tab) (key : Int) (d : Nat) : (outF T key d).length = T.zs.length := by
  induction d with
  | zero => rfl
  | succ d ih => simp only [outF]; split <;> simp [ih]
theorem setF_len (T : Tab) (key : Int) (d : Nat) : (setF T key d).length ≤ d := by
  induction d with
  | zero => simp [setF]
  | succ d ih =>
    simp only [setF]
    split
    · omega
    · simp; omega
theorem movF_len (T : Tab) (key : Int) (d : Nat) : (movF T key d).length ≤ d := by
  induction d with
  | zero => simp [movF]
  | succ d ih =>
    simp only [movF]
    split
    · omega
    · simp; omega
theorem outF_at {T : Tab} {key : Int} (hv : validB T = true) : ∀ d m, d ≤ m → m < T.zs.length → nth (outF T key d) (stepS T (homeN T key) m) = nth T.zs (stepS T (homeN T key) m) := by
  have hh := homeN_lt hv key
  have l1 : 1 ≤ T.zs.length := (valid_facts hv).1.1
  intro d
  induction d with
  | zero => intro m _ _; rfl
  | succ d ih =>
    intro m hm hn
    simp only [outF]
    split
    · exact ih m (by omega) hn
    · rw [nth_set (by rw [outF_len]; exact stepS_lt l1 _ _), if_neg, ih m (by omega) hn]
      intro e
      have := step_inj hh hn (show d < T.zs.length by omega) e
      omega
theorem cm_away {T : Tab} {key : Int} (hv : validB T = true) (d : Nat) : (cm T key d).2 ≤ 16 + d := by
  have l := (valid_facts hv).1
  have hh := homeN_lt hv key
  induction d with
  | zero => simp [cm]
  | succ d ih =>
    simp only [cm]
    split
    · simp; omega
    · have := dst_lt (homeN_lt hv (nth T.zs (stepS T (homeN T key) d))) (stepS_lt (T := T) l.1 (homeN T key) d)
      simp only [awN]; omega

theorem endF_lt {T : Tab} {key : Int} (hv : validB T = true) (hf : -1 ∈ T.zs) : endF T key < T.zs.length ∧ nth T.zs (stepS T (homeN T key) (endF T key)) = -1 := by
  obtain ⟨d, hd, e⟩ := free_step (homeN_lt hv key) hf
  have : endF T key < T.zs.length := by
    refine Nat.lt_of_not_le fun hn => ?_
    have hle := goN_le (fun d => nth T.zs (stepS T (homeN T key) d) == -1) T.zs.length
    have := goN_free (p := fun d => nth T.zs (stepS T (homeN T key) d) == -1) (n := T.zs.length) (j := d) (by unfold endF at hn; omega)
    simp [e] at this
  exact ⟨this, by have := goN_stop (p := fun d => nth T.zs (stepS T (homeN T key) d) == -1) this; simpa [endF] using this⟩
theorem endF_before {T : Tab} {key : Int} {d : Nat} (hd : d < endF T key) : nth T.zs (stepS T (homeN T key) d) ≠ -1 := by
  have := goN_free hd
  simpa using this
theorem plain_key {T : Tab} (hp : plainB T = true) {i : Nat} (hi : i < T.zs.length) (h : nth T.zs i ≠ -1) : 0 ≤ nth T.zs i ∧ nth T.zs i ≤ 99 := by
  obtain ⟨_, hv, ht⟩ := plain_parts hp
  have := valid_slot hv hi
  have := ht i hi
  omega

/-- What may be asked of the slots on the way: they are slots of a table in which the key on its way is not. -/
structure OnWay (T : Tab) (key : Int) (d : Nat) : Prop where
  good : Good (outF T key d) T.zs.length
  k0 : 0 ≤ (cm T key d).1
  k9 : (cm T key d).1 ≤ 99
  no : ∀ i, i < T.zs.length → nth (outF T key d) i ≠ (cm T key d).1
  fr : ∀ i, i < T.zs.length → (nth (outF T key d) i = -1 ↔ nth T.zs i = -1)
  lo : ∀ i, i < T.zs.length → (nth (outF T key d) i < 0 ↔ nth T.zs i < 0)
theorem good_set {zs : List Int} {n k : Nat} {x : Int} (h : Good zs n) (hn : n = zs.length) (hk : k < n) (h0 : 0 ≤ x) (h9 : x ≤ 99) (hx : ∀ i, i < n → nth zs i ≠ x) : Good (zs.set k x) n := by
  intro i hi
  rw [nth_set (by omega)]
  refine ⟨?_, fun hi0 j hj => ?_⟩
  · split
    · exact inB_true ⟨by omega, h9⟩
    · exact (h i hi).1
  · rw [nth_set (by omega)]
    split
    · rename_i e
      rw [if_neg (by omega)]
      exact (hx i hi).symm
    · rename_i e
      split
      · exact hx j (by omega)
      · rename_i e2
        rw [if_neg e2] at hi0
        exact (h i hi).2 hi0 j hj
theorem on_way {T : Tab} {key : Int} (hp : plainB T = true) (hk : 0 ≤ key ∧ key ≤ 99) (hno : ∀ i, i < T.zs.length → nth T.zs i ≠ key) (hf : -1 ∈ T.zs) : ∀ d, d ≤ endF T key → OnWay T key d := by
  obtain ⟨_, hv, ht⟩ := plain_parts hp
  obtain ⟨⟨l1, l2⟩, _, _, hg⟩ := valid_facts hv
  have hel := (endF_lt (key := key) hv hf).1
  intro d
  induction d with
  | zero => intro _; exact ⟨hg, hk.1, hk.2, hno, fun _ _ => Iff.rfl, fun _ _ => Iff.rfl⟩
  | succ d ih =>
    intro hd
    have O := ih (by omega)
    have hs := stepS_lt (T := T) l1 (homeN T key) d
    have hne := endF_before (T := T) (key := key) (d := d) (by omega)
    obtain ⟨k0, k9⟩ := plain_key hp hs hne
    have hat := outF_at (key := key) hv d d (Nat.le_refl _) (by omega)
    by_cases ha : aheadB T (stepS T (homeN T key) d) (cm T key d).1 (cm T key d).2 = true
    · have e1 : outF T key (d + 1) = outF T key d := by simp only [outF]; rw [if_pos ha]
      have e2 : (cm T key (d + 1)).1 = (cm T key d).1 := by simp only [cm]; rw [if_pos ha]
      exact ⟨by rw [e1]; exact O.good, by rw [e2]; exact O.k0, by rw [e2]; exact O.k9, by rw [e1, e2]; exact O.no, by rw [e1]; exact O.fr, by rw [e1]; exact O.lo⟩
    · have e1 : outF T key (d + 1) = (outF T key d).set (stepS T (homeN T key) d) (cm T key d).1 := by simp only [outF]; rw [if_neg ha]
      have e2 : (cm T key (d + 1)).1 = nth T.zs (stepS T (homeN T key) d) := by simp only [cm]; rw [if_neg ha]
      have hnth : ∀ i, nth (outF T key (d + 1)) i = if i = stepS T (homeN T key) d then (cm T key d).1 else nth (outF T key d) i := fun i => by rw [e1]; exact nth_set (by rw [outF_len]; exact hs) _ _
      have c0 := O.k0
      refine ⟨by rw [e1]; exact good_set O.good (outF_len T key d).symm hs O.k0 O.k9 O.no, by rw [e2]; exact k0, by rw [e2]; exact k9, fun i hi => ?_, fun i hi => ?_, fun i hi => ?_⟩
      · rw [hnth, e2]
        split
        · intro e
          exact O.no _ hs (by rw [hat]; exact e.symm)
        · rename_i hi2
          intro e
          exact hi2 (O.good.inj hi hs (by rw [hat]; exact e) (by rw [e]; exact k0))
      · rw [hnth]
        split
        · rename_i e; subst e
          omega
        · exact O.fr i hi
      · rw [hnth]
        split
        · rename_i e; subst e
          omega
        · exact O.lo i hi

/-- The table behind d steps. -/
theorem way_valid {T : Tab} {key : Int} (hv : validB T = true) {d : Nat} (O : OnWay T key d) : validB (tab T (outF T key d)) = true := by
  refine validB_iff.2 ⟨?_, ?_⟩
  · have := (validB_iff.1 hv).1
    show headB (outF T key d).length T.t T.p = true
    rw [outF_len]; exact this
  · show Good (outF T key d) (outF T key d).length
    rw [outF_len]; exact O.good
/-- How far from home a key lies it lies in every table of that head. -/
theorem ahead_same {T : Tab} {zs : List Int} (hv : validB T = true) (hv2 : validB (tab T zs) = true) (hl : zs.length = T.zs.length) {s : Nat} (hs : s < T.zs.length) (e : nth zs s = nth T.zs s) (h0 : 0 ≤ nth T.zs s) (key : Int) (d : Nat) :
    aheadB (tab T zs) s key d = aheadB T s key d := by
  have h1 := awN_of hv2 hl hs (by rw [e]; exact h0)
  have h2 := awN_of (T := T) (zs := T.zs) hv rfl hs h0
  have h2 : awayOf T s = awN T T.zs s := h2
  have h3 : awN T zs s = awN T T.zs s := by unfold awN; rw [e]
  unfold aheadB
  rw [h1, h2, h3]
  show (_ || _ && decide (nth zs s < key)) = _
  rw [e]

/-- A fair table into which a key may be put. -/
def fputOk (T : Tab) (key : Int) : Bool := fairB T && decide (2 ≤ countF T) && inB key 0 99 && decide (findI T key < 0)
def fputT (T : Tab) (key : Int) : Tab := if fputOk T key then tab T (fputZ T key) else ⟨0, 0, []⟩
def fswaps (T : Tab) (key : Int) : List Int := if fputOk T key then fputL T key else []

structure FputSays (T : Tab) (key : Int) : Prop where
  plain : plainB T = true
  val : validB T = true
  free : -1 ∈ T.zs
  key0 : 0 ≤ key ∧ key ≤ 99
  no : ∀ i, i < T.zs.length → nth T.zs i ≠ key
  elt : endF T key < T.zs.length
  eat : nth T.zs (stepS T (homeN T key) (endF T key)) = -1
  way : ∀ d, d ≤ endF T key → OnWay T key d
  val2 : validB (tab T (fputZ T key)) = true
theorem fput_says {T : Tab} {key : Int} (h : fputOk T key = true) : FputSays T key := by
  simp only [fputOk, Bool.and_eq_true, decide_eq_true_eq] at h
  obtain ⟨⟨⟨hfa, hc⟩, hk⟩, hn⟩ := h
  have hk := inB_iff.1 hk
  obtain ⟨hp, hf, _⟩ := fair_parts hfa
  obtain ⟨hs, hv, ht⟩ := plain_parts hp
  obtain ⟨⟨l1, l2⟩, _⟩ := valid_facts hv
  have hno : ∀ i, i < T.zs.length → nth T.zs i ≠ key := fun i hi e => by
    have := (sound_all.1 hs).2 i hi (by rw [e]; exact hk.1)
    rw [e] at this; omega
  obtain ⟨e1, e2⟩ := endF_lt (key := key) hv hf
  have W := on_way hp hk hno hf
  refine ⟨hp, hv, hf, hk, hno, e1, e2, W, validB_iff.2 ⟨?_, ?_⟩⟩
  · have := (validB_iff.1 hv).1
    show headB (fputZ T key).length T.t T.p = true
    unfold fputZ
    rw [List.length_set, outF_len]; exact this
  · have O := W _ (Nat.le_refl _)
    show Good (fputZ T key) (fputZ T key).length
    have hl : (fputZ T key).length = T.zs.length := by unfold fputZ; rw [List.length_set, outF_len]
    rw [hl]
    exact good_set O.good (outF_len T key _).symm (stepS_lt l1 _ _) O.k0 O.k9 O.no

/-- Dropping from a fair table: keys behind the slot come one slot nearer. -/
def nearE (T : Tab) (k : Nat) : Nat := goN (fun d => decide (awayOf T (stepS T (k + 1) d) ≤ 0)) T.zs.length
def nearZ (T : Tab) (k : Nat) : Nat → List Int
  | 0 => T.zs
  | d + 1 => (nearZ T k d).set (stepS T k d) (nth T.zs (stepS T k (d + 1)))
def fdropZ (T : Tab) (k : Nat) : List Int := (nearZ T k (nearE T k)).set (stepS T k (nearE T k)) (-1)
def fdropOk (T : Tab) (key : Int) : Bool := decide (0 ≤ findOf T key) && fairB T
def fdropT (T : Tab) (key : Int) : Tab := if fdropOk T key then tab T (fdropZ T (findOf T key).toNat) else ⟨0, 0, []⟩
theorem nearZ_len (T : Tab) (k d : Nat) : (nearZ T k d).length = T.zs.length := by
  induction d with
  | zero => rfl
  | succ d ih => simp [nearZ, ih]
theorem step_one (T : Tab) (k d : Nat) : stepS T (k + 1) d = stepS T k (d + 1) := by unfold stepS; rw [Nat.add_right_comm, Nat.add_assoc]
theorem nearE_lt {T : Tab} {k : Nat} (hk : k < T.zs.length) (hf : -1 ∈ T.zs) (h0 : 0 ≤ nth T.zs k) : nearE T k + 1 < T.zs.length ∧ awayOf T (stepS T k (nearE T k + 1)) ≤ 0 := by
  obtain ⟨d, hd, e⟩ := free_step hk hf
  have hd0 : d ≠ 0 := fun e0 => by
    subst e0
    have : stepS T k 0 = k := by unfold stepS; exact Nat.mod_eq_of_lt hk
    rw [this] at e; omega
  obtain ⟨d, rfl⟩ : ∃ m, d = m + 1 := ⟨d - 1, by omega⟩
  have hp : decide (awayOf T (stepS T (k + 1) d) ≤ 0) = true := by rw [step_one, free_away (by omega)]; simp
  have hlt : nearE T k ≤ d := by
    refine Nat.le_of_not_lt fun hn => ?_
    have := goN_free (p := fun d => decide (awayOf T (stepS T (k + 1) d) ≤ 0)) (n := T.zs.length) hn
    rw [hp] at this; cases this
  have h2 := goN_stop (p := fun d => decide (awayOf T (stepS T (k + 1) d) ≤ 0)) (n := T.zs.length) (show nearE T k < T.zs.length by omega)
  refine ⟨by omega, ?_⟩
  rw [← step_one]
  simpa [nearE] using h2
theorem nearE_before {T : Tab} {k d : Nat} (hd : d < nearE T k) : 0 < awayOf T (stepS T k (d + 1)) := by
  have := goN_free hd
  rw [step_one] at this
  simpa using this
theorem nearZ_at {T : Tab} {k : Nat} (hk : k < T.zs.length) : ∀ d m, d ≤ m → m < T.zs.length → nth (nearZ T k d) (stepS T k m) = nth T.zs (stepS T k m) := by
  intro d
  induction d with
  | zero => intro m _ _; rfl
  | succ d ih =>
    intro m hm hn
    simp only [nearZ]
    rw [nth_set (by rw [nearZ_len]; exact stepS_lt (by omega) _ _), if_neg, ih m (by omega) hn]
    intro e
    have := step_inj hk hn (show d < T.zs.length by omega) e
    omega

end Go.Proofs.YtkdkdmjhhgllgaaGreatDoor

namespace Go.Proofs.YtkdkdmjhhgllgaaGreatDoor

/-- One key of a list. -/
def stepF (T : Tab) (zs : List Int) (x : Int) : Option (List Int) :=
  if 0 ≤ findI (tab T zs) x then some zs else if fputOk (tab T zs) x then some (fputZ (tab T zs) x) else none
def fallTo (T : Tab) (ks : List Int) : Nat → Option (List Int)
  | 0 => some T.zs
  | j + 1 => (fallTo T ks j).bind fun zs => stepF T zs (nth ks j)
def fallOk (T : Tab) (ks : List Int) : Bool := fairB T && keysB ks && (fallTo T ks ks.length).isSome
def fallT (T : Tab) (ks : List Int) : Tab := if fallOk T ks then tab T ((fallTo T ks ks.length).getD []) else ⟨0, 0, []⟩

theorem fputZ_len (T : Tab) (key : Int) : (fputZ T key).length = T.zs.length := by unfold fputZ; rw [List.length_set, outF_len]
theorem stepF_len {T : Tab} {zs zs' : List Int} {x : Int} (h : stepF T zs x = some zs') : zs'.length = zs.length := by
  unfold stepF at h
  split at h
  · cases h; rfl
  · split at h
    · cases h; exact fputZ_len _ _
    · cases h
theorem stepF_valid {T : Tab} {zs zs' : List Int} {x : Int} (hv : validB (tab T zs) = true) (h : stepF T zs x = some zs') : validB (tab T zs') = true := by
  unfold stepF at h
  split at h
  · cases h; exact hv
  · split at h
    · rename_i hok
      cases h; exact (fput_says hok).val2
    · cases h
theorem fallTo_len {T : Tab} {ks : List Int} : ∀ {j : Nat} {zs : List Int}, fallTo T ks j = some zs → zs.length = T.zs.length := by
  intro j
  induction j with
  | zero => intro zs h; cases h; rfl
  | succ j ih =>
    intro zs h
    simp only [fallTo] at h
    cases hj : fallTo T ks j with
    | none => rw [hj] at h; cases h
    | some z => rw [hj] at h; rw [stepF_len h, ih hj]
theorem fallTo_valid {T : Tab} {ks : List Int} (hv : validB T = true) : ∀ {j : Nat} {zs : List Int}, fallTo T ks j = some zs → validB (tab T zs) = true := by
  intro j
  induction j with
  | zero => intro zs h; cases h; exact hv
  | succ j ih =>
    intro zs h
    simp only [fallTo] at h
    cases hj : fallTo T ks j with
    | none => rw [hj] at h; cases h
    | some z => rw [hj] at h; exact stepF_valid (ih hj) h
theorem fallTo_none {T : Tab} {ks : List Int} {j m : Nat} (h : fallTo T ks j = none) (hm : j ≤ m) : fallTo T ks m = none := by
  induction m with
  | zero => obtain rfl : j = 0 := by omega
            exact h
  | succ m ih =>
    by_cases e : j = m + 1
    · subst e; exact h
    · simp only [fallTo]
      rw [ih (by omega)]; rfl
theorem fall_not {T : Tab} {ks : List Int} {j : Nat} (hj : j ≤ ks.length) (h : fallTo T ks j = none) : fallOk T ks = false := by
  unfold fallOk
  rw [fallTo_none h hj]; simp

/-- A key more, a free slot less. -/
theorem cnt_less {p : Int → Bool} {zs : List Int} {k : Nat} {x : Int} (hk : k < zs.length) (h1 : p (nth zs k) = true) (h2 : p x = false) : cnt p (zs.set k x) zs.length + 1 = cnt p zs zs.length := by
  unfold cnt
  have : (zs.set k x).take zs.length = zs.set k x := by rw [← List.length_set (as := zs) (i := k) (a := x)]; exact List.take_length
  rw [this, List.take_length, List.countP_set hk]
  rw [nth, List.getElem?_eq_getElem hk] at h1
  have h1 : p zs[k] = true := h1
  have : 0 < zs.countP p := List.countP_pos_iff.2 ⟨zs[k], List.getElem_mem hk, h1⟩
  rw [h1, h2]
  simp; omega
theorem cnt_same {p : Int → Bool} {xs ys : List Int} (hl : xs.length = ys.length) (h : ∀ i, i < xs.length → p (nth xs i) = p (nth ys i)) : cnt p xs xs.length = cnt p ys ys.length := by
  unfold cnt
  rw [List.take_length, List.take_length, List.countP_eq_length_filter, List.countP_eq_length_filter]
  have : xs.map p = ys.map p := by
    refine List.ext_getElem (by simpa using hl) fun i h1 h2 => ?_
    simp only [List.length_map] at h1 h2
    have := h i h1
    simpa [nth, h1, h2] using this
  have e : ∀ zs : List Int, (zs.filter p).length = (zs.map p).countP id := fun zs => by
    induction zs with
    | nil => rfl
    | cons z zs ih => simp only [List.filter_cons, List.map_cons, List.countP_cons, id]; split <;> simp_all
  rw [e, e, this]
theorem fput_count {T : Tab} {key : Int} (h : fputOk T key = true) : cnt freeP (fputZ T key) T.zs.length + 1 = cnt freeP T.zs T.zs.length := by
  have F := fput_says h
  have O := F.way _ (Nat.le_refl _)
  obtain ⟨⟨l1, _⟩, _⟩ := valid_facts F.val
  have hs := stepS_lt (T := T) l1 (homeN T key) (endF T key)
  have hl := outF_len T key (endF T key)
  have e1 : cnt freeP (outF T key (endF T key)) (outF T key (endF T key)).length = cnt freeP T.zs T.zs.length := cnt_same hl fun i hi => by
    rw [hl] at hi
    have := O.fr i hi
    unfold freeP
    by_cases c : nth T.zs i = -1
    · rw [c, this.2 c]
    · rw [beq_eq_false_iff_ne.2 c, beq_eq_false_iff_ne.2 fun c2 => c (this.1 c2)]
  have e2 := cnt_less (p := freeP) (x := (cm T key (endF T key)).1) (zs := outF T key (endF T key)) (k := stepS T (homeN T key) (endF T key)) (by rw [hl]; exact hs) (by
    rw [outF_at F.val _ _ (Nat.le_refl _) F.elt, F.eat]; rfl) (by have := O.k0; unfold freeP; exact beq_eq_false_iff_ne.2 (by omega))
  rw [e1, hl] at e2
  exact e2
/-- What the slots hold behind a put: what they held, and the key. -/
theorem way_from {T : Tab} {key : Int} (l1 : 1 ≤ T.zs.length) : ∀ d, (∀ i, i < T.zs.length → nth (outF T key d) i = key ∨ nth (outF T key d) i ∈ T.zs) ∧ ((cm T key d).1 = key ∨ (cm T key d).1 ∈ T.zs) := by
  intro d
  induction d with
  | zero => exact ⟨fun i hi => .inr (nth_mem hi), .inl rfl⟩
  | succ d ih =>
    have hs := stepS_lt (T := T) l1 (homeN T key) d
    by_cases ha : aheadB T (stepS T (homeN T key) d) (cm T key d).1 (cm T key d).2 = true
    · simp only [outF, cm]
      rw [if_pos ha, if_pos ha]
      exact ih
    · simp only [outF, cm]
      rw [if_neg ha, if_neg ha]
      refine ⟨fun i hi => ?_, .inr (nth_mem hs)⟩
      rw [nth_set (by rw [outF_len]; exact hs)]
      split
      · exact ih.2
      · exact ih.1 i hi
theorem fput_from {T : Tab} {key : Int} (l1 : 1 ≤ T.zs.length) (i : Nat) (hi : i < T.zs.length) : nth (fputZ T key) i = key ∨ nth (fputZ T key) i ∈ T.zs := by
  have hs := stepS_lt (T := T) l1 (homeN T key) (endF T key)
  have W := way_from (key := key) l1 (endF T key)
  unfold fputZ
  rw [nth_set (by rw [outF_len]; exact hs)]
  split
  · exact W.2
  · exact W.1 i hi

/-- The fair table of some keys, each once: where they are as many as there are slots there is none. -/
theorem fall_full {T : Tab} {ks : List Int} (hv : validB T = true) (he : ∀ i, i < T.zs.length → nth T.zs i = -1) (hk : ∀ i j, i < ks.length → j < ks.length → nth ks i = nth ks j → i = j) (h0 : ∀ i, i < ks.length → 0 ≤ nth ks i)
    (hl : T.zs.length ≤ ks.length) : fallOk T ks = false := by
  have l1 : 1 ≤ T.zs.length := (valid_facts hv).1.1
  have key : ∀ j, j ≤ ks.length → ∀ zs, fallTo T ks j = some zs → cnt freeP zs T.zs.length + j = T.zs.length ∧ 1 ≤ cnt freeP zs T.zs.length ∧ ∀ i, i < T.zs.length → nth zs i = -1 ∨ ∃ m, m < j ∧ nth zs i = nth ks m := by
    intro j
    induction j with
    | zero =>
      intro _ zs h
      cases h
      have : cnt freeP T.zs T.zs.length = T.zs.length := by
        unfold cnt
        rw [List.take_length, List.countP_eq_length]
        intro x hx
        obtain ⟨i, hi, e⟩ := mem_nth hx
        rw [← e, he i hi]; rfl
      exact ⟨by omega, by omega, fun i hi => .inl (he i hi)⟩
    | succ j ih =>
      intro hj zs h
      simp only [fallTo] at h
      cases hz : fallTo T ks j with
      | none => rw [hz] at h; cases h
      | some z =>
        rw [hz] at h
        obtain ⟨c1, c2, c3⟩ := ih (by omega) z hz
        have hzl := fallTo_len hz
        have hzv := fallTo_valid hv hz
        have hno : ∀ i, i < z.length → nth z i ≠ nth ks j := fun i hi e => by
          rcases c3 i (by omega) with c | ⟨m, hm, c⟩
          · have := h0 j (by omega); omega
          · have := hk m j (by omega) (by omega) (by rw [← c, e]); omega
        have hnf : ¬ 0 ≤ findI (tab T z) (nth ks j) := by
          rw [none_find hzv fun i hi => hno i hi]; omega
        have h : stepF T z (nth ks j) = some zs := h
        unfold stepF at h
        rw [if_neg hnf] at h
        split at h
        · rename_i hok
          cases h
          have hc := fput_count hok
          have hcf : 2 ≤ countF (tab T z) := by
            have h2 := hok
            simp only [fputOk, Bool.and_eq_true, decide_eq_true_eq] at h2
            exact h2.1.1.2
          have hl2 : (tab T z).zs.length = T.zs.length := hzl
          unfold countF at hcf
          rw [if_pos hzv] at hcf
          rw [hl2] at hc hcf
          have e3 : (tab T z).zs = z := rfl
          rw [e3] at hc hcf
          refine ⟨by omega, by omega, fun i hi => ?_⟩
          rcases fput_from (T := tab T z) (key := nth ks j) (by rw [hl2]; exact l1) i (by rw [hl2]; exact hi) with c | c
          · exact .inr ⟨j, by omega, c⟩
          · obtain ⟨q, hq, e⟩ := mem_nth c
            have hq : q < z.length := hq
            have e : nth z q = _ := e
            rcases c3 q (by omega) with c | ⟨m, hm, c⟩
            · exact .inl (by rw [← e]; exact c)
            · exact .inr ⟨m, by omega, by rw [← e]; exact c⟩
        · cases h
  cases hz : fallTo T ks T.zs.length with
  | none => exact fall_not hl hz
  | some z => have := key _ hl z hz; omega

end Go.Proofs.YtkdkdmjhhgllgaaGreatDoor

namespace Go.Proofs.YtkdkdmjhhgllgaaGreatDoor

theorem awayOf_bounds' (T : Tab) (s : Nat) (hl : T.zs.length ≤ 16) : -1 ≤ awayOf T (s : Int) ∧ awayOf T (s : Int) ≤ 15 := by
  unfold awayOf
  split
  · rename_i h
    simp only [Bool.and_eq_true, decide_eq_true_eq] at h
    obtain ⟨⟨hv, _⟩, _⟩ := h
    obtain ⟨⟨l1, _⟩, _⟩ := valid_facts hv
    have h1 := Int.emod_nonneg ((s : Int) - homeI T (nth T.zs (s : Int).toNat)) (b := (T.zs.length : Int)) (by omega)
    have h2 := Int.emod_lt_of_pos ((s : Int) - homeI T (nth T.zs (s : Int).toNat)) (b := (T.zs.length : Int)) (by omega)
    omega
  · omega

/-- Along a fair table homes ascend, and keys of one home. -/
theorem fair_runs {T : Tab} (hf : fairB T = true) {i j : Nat} (hi : i < T.zs.length) (hj : j = (i + 1) % T.zs.length) (hb : 0 ≤ awayOf T (j : Int)) :
    (awayOf T (i : Int) = -1 ∧ awayOf T (j : Int) = 0) ∨ (0 ≤ awayOf T (i : Int) ∧ awayOf T (j : Int) ≤ awayOf T (i : Int)) ∨ (0 ≤ awayOf T (i : Int) ∧ awayOf T (j : Int) = awayOf T (i : Int) + 1 ∧ nth T.zs i < nth T.zs j) := by
  obtain ⟨hp, hm, hto⟩ := fair_parts hf
  obtain ⟨hs, hv, _⟩ := plain_parts hp
  obtain ⟨⟨l1, l2⟩, _⟩ := valid_facts hv
  have hjl : j < T.zs.length := by rw [hj]; exact Nat.mod_lt _ (by omega)
  have hbi := (awayOf_bounds' T i l2).1
  have hy : 0 ≤ nth T.zs j := by
    refine Int.not_lt.1 fun h => ?_
    rw [free_away h] at hb; omega
  obtain ⟨a1, a2, a3⟩ := away_self hv hjl hy
  have hsl := fairTo_iff.1 hto j hjl
  have hn : ¬ nth T.zs j < 0 := by omega
  simp only [slotB, hn, decide_false, Bool.false_or] at hsl
  by_cases h0 : awN T T.zs j = 0
  · rw [a1, h0]
    by_cases hi0 : awayOf T (i : Int) < 0
    · exact .inl ⟨by omega, rfl⟩
    · exact .inr (.inl ⟨by omega, by omega⟩)
  · have h1 := wayB_iff.1 hsl (awN T T.zs j - 1) (by omega)
    have hh := homeN_lt hv (nth T.zs j)
    have hst : stepS T (homeN T (nth T.zs j)) (awN T T.zs j - 1) = i := by
      have h3 : (stepS T (homeN T (nth T.zs j)) (awN T T.zs j - 1) + 1) % T.zs.length = (i + 1) % T.zs.length := by
        rw [← hj]
        conv => rhs; rw [← a3]
        unfold stepS
        rw [Nat.mod_add_mod]
        congr 1
        omega
      have h4 := stepS_lt (T := T) l1 (homeN T (nth T.zs j)) (awN T T.zs j - 1)
      generalize stepS T (homeN T (nth T.zs j)) (awN T T.zs j - 1) = s at h3 h4
      rcases Nat.lt_or_ge (s + 1) T.zs.length with c | c <;> rcases Nat.lt_or_ge (i + 1) T.zs.length with d | d
      · rw [Nat.mod_eq_of_lt c, Nat.mod_eq_of_lt d] at h3; omega
      · rw [Nat.mod_eq_of_lt c, show i + 1 = T.zs.length by omega, Nat.mod_self] at h3; omega
      · rw [Nat.mod_eq_of_lt d, show s + 1 = T.zs.length by omega, Nat.mod_self] at h3; omega
      · omega
    rw [hst] at h1
    unfold aheadB at h1
    simp only [Bool.or_eq_true, Bool.and_eq_true, decide_eq_true_eq, beq_iff_eq] at h1
    rw [a1]
    rcases h1 with h1 | ⟨h1, h2⟩
    · exact .inr (.inl ⟨by omega, by omega⟩)
    · exact .inr (.inr ⟨by omega, by omega, h2⟩)

end Go.Proofs.YtkdkdmjhhgllgaaGreatDoor

namespace Go.Proofs.YtkdkdmjhhgllgaaGreatDoor

/-- The first slot on the way whose key gives way (or the free one). -/
def giveN (T : Tab) (key : Int) : Nat := goN (fun d => !aheadB T (stepS T (homeN T key) d) key d) (endF T key)
theorem give_le (T : Tab) (key : Int) : giveN T key ≤ endF T key := goN_le _ _
theorem give_before {T : Tab} {key : Int} : ∀ d, d ≤ giveN T key → cm T key d = (key, d) ∧ outF T key d = T.zs ∧ movF T key d = [] := by
  intro d
  induction d with
  | zero => intro _; exact ⟨rfl, rfl, rfl⟩
  | succ d ih =>
    intro hd
    obtain ⟨e1, e2, e3⟩ := ih (by omega)
    have ha : aheadB T (stepS T (homeN T key) d) key d = true := by
      have := goN_free (p := fun d => !aheadB T (stepS T (homeN T key) d) key d) (n := endF T key) (j := d) (by unfold giveN at hd; omega)
      simpa using this
    simp only [cm, outF, movF]
    rw [e1]
    simp only
    rw [if_pos ha, if_pos ha, if_pos ha, e2, e3]
    exact ⟨rfl, rfl, rfl⟩
theorem step_next6 (T : Tab) (h m : Nat) : stepS T h (m + 1) = (stepS T h m + 1) % T.zs.length := by
  unfold stepS
  rw [Nat.mod_add_mod, Nat.add_assoc]

structure After (T : Tab) (key : Int) (g d : Nat) : Prop where
  com : cm T key d = (nth T.zs (stepS T (homeN T key) (d - 1)), awN T T.zs (stepS T (homeN T key) (d - 1)) + 1)
  mov : movF T key d = (List.range (d - g)).map fun i => nth T.zs (stepS T (homeN T key) (g + i))
  out : ∀ m, g < m → m < d → nth (outF T key d) (stepS T (homeN T key) m) = nth T.zs (stepS T (homeN T key) (m - 1))
theorem give_after {T : Tab} {key : Int} (hfa : fairB T = true) (F : FputSays T key) : ∀ k, giveN T key + 1 + k ≤ endF T key → After T key (giveN T key) (giveN T key + 1 + k) := by
  obtain ⟨⟨l1, l2⟩, _⟩ := valid_facts F.val
  have hh := homeN_lt F.val key
  have hE := F.elt
  intro k
  induction k with
  | zero =>
    intro hk
    obtain ⟨e1, e2, e3⟩ := give_before (T := T) (key := key) (giveN T key) (Nat.le_refl _)
    have ha : aheadB T (stepS T (homeN T key) (giveN T key)) key (giveN T key) = false := by
      have := goN_stop (p := fun d => !aheadB T (stepS T (homeN T key) d) key d) (n := endF T key) (by unfold giveN at hk; omega)
      simpa [giveN] using this
    refine ⟨?_, ?_, fun m hm hm2 => by omega⟩
    · simp only [cm, Nat.add_zero, Nat.add_sub_cancel]
      rw [e1]
      simp only
      rw [ha]
      rfl
    · have e0 : giveN T key + 1 + 0 - giveN T key = 1 := by omega
      rw [e0]
      simp only [movF, Nat.add_zero]
      rw [e1]
      simp only
      rw [ha, e3]
      simp
  | succ k ih =>
    intro hk
    have A := ih (by omega)
    obtain ⟨d, hd⟩ : ∃ d, giveN T key + 1 + k = d := ⟨_, rfl⟩
    rw [hd] at A
    have hk1 : giveN T key + 1 + (k + 1) = d + 1 := by omega
    rw [hk1]
    have hdE : d < endF T key := by omega
    have hgd : giveN T key < d := by omega
    have hs0 := stepS_lt (T := T) l1 (homeN T key) (d - 1)
    have hs1 := stepS_lt (T := T) l1 (homeN T key) d
    have hn : stepS T (homeN T key) d = (stepS T (homeN T key) (d - 1) + 1) % T.zs.length := by
      rw [← step_next6]; congr 1; omega
    have k0 := plain_key F.plain hs0 (endF_before (T := T) (key := key) (d := d - 1) (by omega))
    have k1 := plain_key F.plain hs1 (endF_before (T := T) (key := key) (d := d) (by omega))
    obtain ⟨a1, a2, a3⟩ := away_self F.val hs0 k0.1
    obtain ⟨b1, b2, b3⟩ := away_self F.val hs1 k1.1
    have ha : aheadB T (stepS T (homeN T key) d) (cm T key d).1 (cm T key d).2 = false := by
      rw [A.com]
      have hr := fair_runs hfa hs0 hn (by rw [b1]; omega)
      simp only [aheadB, Bool.or_eq_false_iff, Bool.and_eq_false_iff, decide_eq_false_iff_not, beq_eq_false_iff_ne]
      rw [a1, b1] at hr
      rw [b1]
      omega
    refine ⟨?_, ?_, fun m hm hm2 => ?_⟩
    · simp only [cm, Nat.add_sub_cancel]
      rw [ha]
      rfl
    · have e0 : d + 1 - giveN T key = (d - giveN T key) + 1 := by omega
      rw [e0, List.range_succ, List.map_append, ← A.mov]
      simp only [movF]
      rw [ha]
      simp only [List.map_cons, List.map_nil]
      rw [show giveN T key + (d - giveN T key) = d by omega]
      rfl
    · simp only [outF]
      rw [ha]
      simp only [Bool.false_eq_true, if_false]
      rw [nth_set (by rw [outF_len]; exact hs1)]
      by_cases e : m = d
      · subst e
        rw [if_pos rfl, A.com]
      · rw [if_neg fun h => e (step_inj hh (by omega) (by omega) h)]
        exact A.out m hm (by omega)

theorem fputL_eq {T : Tab} {key : Int} (hfa : fairB T = true) (F : FputSays T key) : fputL T key = (List.range (endF T key - giveN T key)).map fun i => nth T.zs (stepS T (homeN T key) (giveN T key + i)) := by
  unfold fputL
  by_cases h : giveN T key = endF T key
  · rw [← h, (give_before (T := T) (key := key) _ (Nat.le_refl _)).2.2]; simp
  · have := give_le T key
    have A := give_after hfa F (endF T key - giveN T key - 1) (by omega)
    rw [show giveN T key + 1 + (endF T key - giveN T key - 1) = endF T key by omega] at A
    exact A.mov
theorem fputZ_at {T : Tab} {key : Int} (hfa : fairB T = true) (F : FputSays T key) {m : Nat} (h1 : giveN T key < m) (h2 : m ≤ endF T key) : nth (fputZ T key) (stepS T (homeN T key) m) = nth T.zs (stepS T (homeN T key) (m - 1)) := by
  obtain ⟨⟨l1, l2⟩, _⟩ := valid_facts F.val
  have hh := homeN_lt F.val key
  have hE := F.elt
  have A := give_after hfa F (endF T key - giveN T key - 1) (by omega)
  rw [show giveN T key + 1 + (endF T key - giveN T key - 1) = endF T key by omega] at A
  unfold fputZ
  rw [nth_set (by rw [outF_len]; exact stepS_lt l1 _ _)]
  by_cases e : m = endF T key
  · subst e
    rw [if_pos rfl, A.com]
  · rw [if_neg fun h => e (step_inj hh (by omega) (by omega) h)]
    exact A.out m h1 (by omega)
theorem fputZ_full {T : Tab} {key : Int} (F : FputSays T key) {i : Nat} (hi : i < T.zs.length) (h : nth T.zs i ≠ -1) : nth (fputZ T key) i ≠ -1 := by
  obtain ⟨⟨l1, l2⟩, _⟩ := valid_facts F.val
  have O := F.way _ (Nat.le_refl _)
  have c0 := O.k0
  unfold fputZ
  rw [nth_set (by rw [outF_len]; exact stepS_lt l1 _ _)]
  split
  · omega
  · intro e; exact h ((O.fr i hi).1 e)
theorem fputZ_len6 (T : Tab) (key : Int) : (fputZ T key).length = T.zs.length := by unfold fputZ; rw [List.length_set, outF_len]

/-- A key that lies one slot behind the way that it had before is found there. -/
theorem one_behind {T : Tab} {zs : List Int} (hp : plainB T = true) (hm : -1 ∈ T.zs) (hv2 : validB (tab T zs) = true) (hl : zs.length = T.zs.length) (hfull : ∀ i, i < T.zs.length → nth T.zs i ≠ -1 → nth zs i ≠ -1)
    {a b : Nat} (ha : a < T.zs.length) (h0 : 0 ≤ nth T.zs a) (h9 : nth T.zs a ≤ 99) (hb : b = (a + 1) % T.zs.length) (he : nth zs b = nth T.zs a) :
    ∃ d : Nat, d ≤ 15 ∧ findOf T (nth T.zs a) = (a : Int) ∧ findOf (tab T zs) (nth T.zs a) = (b : Int) ∧ awayOf T (a : Int) = (d : Int) ∧ awayOf (tab T zs) (b : Int) = (d : Int) + 1 := by
  obtain ⟨hs, hv, _⟩ := plain_parts hp
  obtain ⟨⟨l1, l2⟩, _, _, hg⟩ := valid_facts hv
  have hbl : b < T.zs.length := by rw [hb]; exact Nat.mod_lt _ (by omega)
  obtain ⟨a1, a2, a3⟩ := away_self hv ha h0
  have hh := homeN_lt hv (nth T.zs a)
  have hkk : inB (nth T.zs a) 0 99 = true := inB_true ⟨h0, h9⟩
  have hf1 := sound_find hs ha h0
  have hnf : ∀ i, i < awN T T.zs a → nth T.zs (stepS T (homeN T (nth T.zs a)) i) ≠ -1 := by
    refine (found_iff hv a2 (by rw [a3]) h0).1 (by rw [hf1]; omega)
  have hlt : awN T T.zs a + 1 < T.zs.length := by
    refine Nat.lt_of_not_le fun hn => ?_
    obtain ⟨d, hd, e⟩ := free_step hh hm
    by_cases h1 : d < awN T T.zs a
    · exact hnf d h1 e
    · have : d = awN T T.zs a := by omega
      subst this
      rw [a3] at e
      omega
  have hst : stepS T (homeN T (nth T.zs a)) (awN T T.zs a + 1) = b := by rw [step_next6, a3, hb]
  have hlt2 : awN T T.zs a + 1 < (tab T zs).zs.length := by show _ < zs.length; omega
  have hhome : homeN (tab T zs) (nth T.zs a) = homeN T (nth T.zs a) := tab_home hl _
  have hstep : ∀ h i, stepS (tab T zs) h i = stepS T h i := fun h i => by unfold stepS; show (h + i) % zs.length = _; rw [hl]
  have hx : nth (tab T zs).zs (stepS (tab T zs) (homeN (tab T zs) (nth T.zs a)) (awN T T.zs a + 1)) = nth T.zs a := by
    rw [hhome, hstep, hst]; exact he
  have hfi : 0 ≤ findI (tab T zs) (nth T.zs a) := by
    refine (found_iff hv2 hlt2 hx h0).2 fun i hi => ?_
    rw [hhome, hstep]
    refine hfull _ (stepS_lt l1 _ _) ?_
    by_cases h1 : i < awN T T.zs a
    · exact hnf i h1
    · have : i = awN T T.zs a := by omega
      subst this
      rw [a3]; omega
  obtain ⟨e1, e2⟩ := find_yes hfi
  have hg2 := (valid_facts hv2).2.2.2
  have hll := lastOf_lt (T := tab T zs) (show 1 ≤ zs.length by omega) (nth T.zs a)
  have e3 : lastOf (tab T zs) (nth T.zs a) = b := by
    refine hg2.inj hll (show b < zs.length by omega) ?_ ?_
    · rw [e2]; exact he.symm
    · show 0 ≤ nth (tab T zs).zs (lastOf (tab T zs) (nth T.zs a)); rw [e2]; exact h0
  have h5 := away_step hv2 hlt2 hx h0
  rw [hhome, hstep, hst] at h5
  refine ⟨awN T T.zs a, by omega, ?_, ?_, a1, by rw [h5]; simp⟩
  · unfold findOf; rw [hv, hkk]; simpa using hf1
  · unfold findOf; rw [hv2, hkk]; simp only [Bool.and_self, if_true]; rw [e1, e3]

/-- What the law of swaps asks. -/
theorem swaps_say {T : Tab} {key : Int} (h : fputOk T key = true) {i : Nat} (hi : i < (fswaps T key).length) : ∃ a b d : Nat, a < T.zs.length ∧ b < T.zs.length ∧ b = (a + 1) % T.zs.length ∧ d ≤ 15 ∧ findOf T (nth (fswaps T key) i) = (a : Int) ∧
    findOf (fputT T key) (nth (fswaps T key) i) = (b : Int) ∧ awayOf T (a : Int) = (d : Int) ∧ awayOf (fputT T key) (b : Int) = (d : Int) + 1 ∧ (0 < i → ∃ c : Nat, c < T.zs.length ∧ findOf T (nth (fswaps T key) (i - 1)) = (c : Int) ∧ a = (c + 1) % T.zs.length) := by
  have F := fput_says h
  have hfa : fairB T = true := by simp only [fputOk, Bool.and_eq_true] at h; exact h.1.1.1
  obtain ⟨⟨l1, l2⟩, _⟩ := valid_facts F.val
  have eL : fswaps T key = fputL T key := by simp [fswaps, h]
  have eT : fputT T key = tab T (fputZ T key) := by simp [fputT, h]
  rw [eL] at hi ⊢
  rw [eT]
  rw [fputL_eq hfa F] at hi ⊢
  simp only [List.length_map, List.length_range] at hi
  have hnth : ∀ j, j < endF T key - giveN T key → nth ((List.range (endF T key - giveN T key)).map fun i => nth T.zs (stepS T (homeN T key) (giveN T key + i))) j = nth T.zs (stepS T (homeN T key) (giveN T key + j)) := fun j hj => by
    unfold nth
    simp [hj]
  have key2 : ∀ j, j < endF T key - giveN T key → ∃ d : Nat, d ≤ 15 ∧ findOf T (nth T.zs (stepS T (homeN T key) (giveN T key + j))) = (stepS T (homeN T key) (giveN T key + j) : Nat) ∧ findOf (tab T (fputZ T key)) (nth T.zs (stepS T (homeN T key) (giveN T key + j))) = (stepS T (homeN T key) (giveN T key + j + 1) : Nat) ∧
      awayOf T (stepS T (homeN T key) (giveN T key + j) : Nat) = (d : Int) ∧ awayOf (tab T (fputZ T key)) (stepS T (homeN T key) (giveN T key + j + 1) : Nat) = (d : Int) + 1 := fun j hj => by
    have k0 := plain_key F.plain (stepS_lt (T := T) l1 (homeN T key) (giveN T key + j)) (endF_before (T := T) (key := key) (d := giveN T key + j) (by omega))
    refine one_behind F.plain F.free F.val2 (fputZ_len6 T key) (fun i hi h => fputZ_full F hi h) (stepS_lt l1 _ _) k0.1 k0.2 (step_next6 T _ _) ?_
    rw [fputZ_at hfa F (by omega) (by omega), Nat.add_sub_cancel]
  obtain ⟨d, h1, h2, h3, h4, h5⟩ := key2 i hi
  rw [hnth i hi]
  refine ⟨_, _, d, stepS_lt l1 _ _, stepS_lt l1 _ _, step_next6 T _ _, h1, h2, h3, h4, h5, fun hi0 => ?_⟩
  obtain ⟨d', _, g2, _⟩ := key2 (i - 1) (by omega)
  rw [hnth (i - 1) (by omega)]
  refine ⟨_, stepS_lt l1 _ _, g2, ?_⟩
  rw [← step_next6]
  congr 1
  omega

end Go.Proofs.YtkdkdmjhhgllgaaGreatDoor

namespace Go.Proofs.YtkdkdmjhhgllgaaGreatDoor

/-- How far a key may lie from home behind another one. -/
def Lok (a x b y : Int) : Prop := b ≤ 0 ∨ (0 ≤ a ∧ b ≤ a) ∨ (0 ≤ a ∧ b = a + 1 ∧ x < y)
theorem fair_lok {T : Tab} (hf : fairB T = true) {i : Nat} (hi : i < T.zs.length) : Lok (awayOf T i) (nth T.zs i) (awayOf T ((i + 1) % T.zs.length : Nat)) (nth T.zs ((i + 1) % T.zs.length)) := by
  by_cases hb : 0 ≤ awayOf T ((i + 1) % T.zs.length : Nat)
  · rcases fair_runs hf hi rfl hb with ⟨h1, h2⟩ | ⟨h1, h2⟩ | ⟨h1, h2, h3⟩
    · exact .inl (by omega)
    · exact .inr (.inl ⟨h1, h2⟩)
    · exact .inr (.inr ⟨h1, h2, h3⟩)
  · exact .inl (by omega)

theorem lok_way {T : Tab} (hv : validB T = true) (hl : ∀ i, i < T.zs.length → Lok (awayOf T i) (nth T.zs i) (awayOf T ((i + 1) % T.zs.length : Nat)) (nth T.zs ((i + 1) % T.zs.length)))
    {j : Nat} (hj : j < T.zs.length) (h0 : 0 ≤ nth T.zs j) : ∀ e, 1 ≤ e → e ≤ awN T T.zs j →
      let s := stepS T (homeN T (nth T.zs j)) (awN T T.zs j - e)
      ((awN T T.zs j - e : Nat) : Int) ≤ awayOf T s ∧ (awayOf T s = ((awN T T.zs j - e : Nat) : Int) → nth T.zs s < nth T.zs j) := by
  obtain ⟨⟨l1, _⟩, _⟩ := valid_facts hv
  obtain ⟨a1, a2, a3⟩ := away_self hv hj h0
  intro e
  induction e with
  | zero => intro h; omega
  | succ e ih =>
    intro _ he
    show ((awN T T.zs j - (e + 1) : Nat) : Int) ≤ awayOf T (stepS T (homeN T (nth T.zs j)) (awN T T.zs j - (e + 1)) : Nat) ∧ (awayOf T (stepS T (homeN T (nth T.zs j)) (awN T T.zs j - (e + 1)) : Nat) = ((awN T T.zs j - (e + 1) : Nat) : Int) → nth T.zs (stepS T (homeN T (nth T.zs j)) (awN T T.zs j - (e + 1))) < nth T.zs j)
    have hs := stepS_lt (T := T) l1 (homeN T (nth T.zs j)) (awN T T.zs j - (e + 1))
    have hk := hl _ hs
    rw [← step_next6, show awN T T.zs j - (e + 1) + 1 = awN T T.zs j - e by omega] at hk
    by_cases e0 : e = 0
    · subst e0
      rw [Nat.sub_zero, a3, a1] at hk
      generalize stepS T (homeN T (nth T.zs j)) (awN T T.zs j - (0 + 1)) = s at hk ⊢
      rcases hk with h | ⟨h1, h2⟩ | ⟨h1, h2, h3⟩
      · omega
      · exact ⟨by omega, fun h => by omega⟩
      · exact ⟨by omega, fun _ => h3⟩
    · obtain ⟨i1, i2⟩ := ih (by omega) (by omega)
      generalize stepS T (homeN T (nth T.zs j)) (awN T T.zs j - (e + 1)) = s at hk ⊢
      generalize stepS T (homeN T (nth T.zs j)) (awN T T.zs j - e) = s' at hk i1 i2
      rcases hk with h | ⟨h1, h2⟩ | ⟨h1, h2, h3⟩
      · omega
      · exact ⟨by omega, fun h => by omega⟩
      · refine ⟨by omega, fun h => ?_⟩
        have := i2 (by omega)
        omega
theorem lok_fair {T : Tab} (hv : validB T = true) (ht : ∀ i, i < T.zs.length → nth T.zs i ≠ -2) (hm : -1 ∈ T.zs)
    (hl : ∀ i, i < T.zs.length → Lok (awayOf T i) (nth T.zs i) (awayOf T ((i + 1) % T.zs.length : Nat)) (nth T.zs ((i + 1) % T.zs.length))) : fairB T = true := by
  have hway : ∀ j, j < T.zs.length → 0 ≤ nth T.zs j → ∀ d, d < awN T T.zs j → aheadB T (stepS T (homeN T (nth T.zs j)) d) (nth T.zs j) d = true ∧ nth T.zs (stepS T (homeN T (nth T.zs j)) d) ≠ -1 := fun j hj h0 d hd => by
    obtain ⟨w1, w2⟩ := lok_way hv hl hj h0 (awN T T.zs j - d) (by omega) (by omega)
    rw [show awN T T.zs j - (awN T T.zs j - d) = d by omega] at w1 w2
    generalize stepS T (homeN T (nth T.zs j)) d = s at w1 w2 ⊢
    refine ⟨?_, fun e => ?_⟩
    · unfold aheadB
      simp only [Bool.or_eq_true, Bool.and_eq_true, decide_eq_true_eq, beq_iff_eq]
      by_cases c : awayOf T s = (d : Int)
      · exact .inr ⟨c, w2 c⟩
      · exact .inl (by omega)
    · rw [free_away (by omega)] at w1
      omega
  have hsound : soundB T = true := sound_all.2 ⟨hv, fun i hi h0 => by
    obtain ⟨a1, a2, a3⟩ := away_self hv hi h0
    exact (found_iff hv a2 (by rw [a3]) h0).2 fun m hm => (hway i hi h0 m hm).2⟩
  simp only [fairB, plainB, Bool.and_eq_true, decide_eq_true_eq, Bool.not_eq_true']
  refine ⟨⟨⟨hsound, decide_eq_false fun h => ?_⟩, hm⟩, fairTo_iff.2 fun i hi => ?_⟩
  · obtain ⟨i, hi, e⟩ := mem_nth h
    exact ht i hi e
  · unfold slotB
    by_cases c : nth T.zs i < 0
    · simp [c]
    · simp only [c, decide_false, Bool.false_or]
      exact wayB_iff.2 fun d hd => (hway i hi (by omega) d hd).1

theorem away_same6 {T : Tab} {zs : List Int} (hv : validB T = true) (hv2 : validB (tab T zs) = true) (hl : zs.length = T.zs.length) {i : Nat} (hi : i < T.zs.length) (e : nth zs i = nth T.zs i) : awayOf (tab T zs) i = awayOf T i := by
  by_cases h0 : nth T.zs i < 0
  · rw [free_away h0, free_away (T := tab T zs) (by show nth zs i < 0; omega)]
  · rw [awN_of hv2 hl hi (by omega), (away_self hv hi (by omega)).1]
    unfold awN
    rw [e]
theorem out_low {T : Tab} {key : Int} (hv : validB T = true) {m : Nat} (hm : m < giveN T key) : ∀ d, d ≤ T.zs.length → nth (outF T key d) (stepS T (homeN T key) m) = nth T.zs (stepS T (homeN T key) m) := by
  obtain ⟨⟨l1, _⟩, _⟩ := valid_facts hv
  have hh := homeN_lt hv key
  intro d
  induction d with
  | zero => intro _; rfl
  | succ d ih =>
    intro hd
    by_cases c : d < giveN T key
    · rw [(give_before (T := T) (key := key) (d + 1) (by omega)).2.1]
    · simp only [outF]
      split
      · exact ih (by omega)
      · rw [nth_set (by rw [outF_len]; exact stepS_lt l1 _ _), if_neg fun h => by have := step_inj hh (by omega) (by omega) h; omega]
        exact ih (by omega)
theorem out_give {T : Tab} {key : Int} (hv : validB T = true) : ∀ d, giveN T key < d → d ≤ endF T key → d ≤ T.zs.length → nth (outF T key d) (stepS T (homeN T key) (giveN T key)) = key := by
  obtain ⟨⟨l1, _⟩, _⟩ := valid_facts hv
  have hh := homeN_lt hv key
  intro d
  induction d with
  | zero => intro h; omega
  | succ d ih =>
    intro hg hE hd
    simp only [outF]
    by_cases c : d = giveN T key
    · subst c
      obtain ⟨e1, e2, e3⟩ := give_before (T := T) (key := key) (giveN T key) (Nat.le_refl _)
      have ha : aheadB T (stepS T (homeN T key) (giveN T key)) key (giveN T key) = false := by
        have := goN_stop (p := fun d => !aheadB T (stepS T (homeN T key) d) key d) (n := endF T key) (show giveN T key < endF T key by omega)
        simpa [giveN] using this
      rw [e1]
      simp only
      rw [ha]
      simp only [Bool.false_eq_true, if_false]
      rw [nth_set (by rw [outF_len]; exact stepS_lt l1 _ _), if_pos rfl]
    · have := ih (by omega) (by omega) (by omega)
      split
      · exact this
      · rw [nth_set (by rw [outF_len]; exact stepS_lt l1 _ _), if_neg fun h => by have := step_inj hh (by omega) (by omega) h; omega]
        exact this

/-- What the slots hold when a key has been put, by steps from its home. -/
structure Shifted (T : Tab) (key : Int) : Prop where
  low : ∀ m, m < giveN T key → nth (fputZ T key) (stepS T (homeN T key) m) = nth T.zs (stepS T (homeN T key) m)
  at_ : nth (fputZ T key) (stepS T (homeN T key) (giveN T key)) = key
  mid : ∀ m, giveN T key < m → m ≤ endF T key → nth (fputZ T key) (stepS T (homeN T key) m) = nth T.zs (stepS T (homeN T key) (m - 1))
  high : ∀ m, endF T key < m → m < T.zs.length → nth (fputZ T key) (stepS T (homeN T key) m) = nth T.zs (stepS T (homeN T key) m)
theorem shifted {T : Tab} {key : Int} (hfa : fairB T = true) (F : FputSays T key) : Shifted T key := by
  obtain ⟨⟨l1, _⟩, _⟩ := valid_facts F.val
  have hh := homeN_lt F.val key
  have hE := F.elt
  have hg := give_le T key
  refine ⟨fun m hm => ?_, ?_, fun m h1 h2 => fputZ_at hfa F h1 h2, fun m h1 h2 => ?_⟩
  · unfold fputZ
    rw [nth_set (by rw [outF_len]; exact stepS_lt l1 _ _), if_neg fun h => by have := step_inj hh (by omega) (by omega) h; omega]
    exact out_low F.val hm _ (by omega)
  · unfold fputZ
    rw [nth_set (by rw [outF_len]; exact stepS_lt l1 _ _)]
    by_cases c : giveN T key = endF T key
    · rw [← c, if_pos rfl, (give_before (T := T) (key := key) _ (Nat.le_refl _)).1]
    · rw [if_neg fun h => by have := step_inj hh (by omega) (by omega) h; omega]
      exact out_give F.val _ (by omega) (Nat.le_refl _) (by omega)
  · unfold fputZ
    rw [nth_set (by rw [outF_len]; exact stepS_lt l1 _ _), if_neg fun h => by have := step_inj hh (by omega) (by omega) h; omega]
    exact outF_at F.val _ _ (by omega) h2

theorem fput_fair {T : Tab} {key : Int} (h : fputOk T key = true) : fairB (tab T (fputZ T key)) = true := by
  have F := fput_says h
  simp only [fputOk, Bool.and_eq_true, decide_eq_true_eq] at h
  obtain ⟨⟨⟨hfa, hc⟩, hk⟩, _⟩ := h
  have Sh := shifted hfa F
  obtain ⟨⟨l1, l2⟩, _⟩ := valid_facts F.val
  have hh := homeN_lt F.val key
  have hE := F.elt
  have hg := give_le T key
  have hlen := fputZ_len T key
  have hfull : ∀ i, i < T.zs.length → nth T.zs i ≠ -1 → nth (fputZ T key) i ≠ -1 := fun i hi hne => fputZ_full F hi hne
  have hst : ∀ m, stepS T (homeN T key) m < T.zs.length := fun m => stepS_lt l1 _ _
  -- how far keys lie
  have same : ∀ m, nth (fputZ T key) (stepS T (homeN T key) m) = nth T.zs (stepS T (homeN T key) m) → awayOf (tab T (fputZ T key)) (stepS T (homeN T key) m : Nat) = awayOf T (stepS T (homeN T key) m : Nat) := fun m e => away_same6 F.val F.val2 hlen (hst m) e
  have atg : awayOf (tab T (fputZ T key)) (stepS T (homeN T key) (giveN T key) : Nat) = (giveN T key : Int) := by
    have e1 : homeN (tab T (fputZ T key)) key = homeN T key := tab_home hlen key
    have e2 : ∀ m, stepS (tab T (fputZ T key)) (homeN T key) m = stepS T (homeN T key) m := fun m => by simp [stepS, tab, hlen]
    have := away_step (T := tab T (fputZ T key)) (x := key) F.val2 (j := giveN T key) (by show giveN T key < (fputZ T key).length; omega) (by rw [e1, e2]; exact Sh.at_) F.key0.1
    rw [e1, e2] at this
    exact this
  have mid : ∀ m, giveN T key < m → m ≤ endF T key → awayOf (tab T (fputZ T key)) (stepS T (homeN T key) m : Nat) = awayOf T (stepS T (homeN T key) (m - 1) : Nat) + 1 ∧ 0 ≤ awayOf T (stepS T (homeN T key) (m - 1) : Nat) := fun m h1 h2 => by
    have k0 := plain_key F.plain (hst (m - 1)) (endF_before (T := T) (key := key) (d := m - 1) (by omega))
    obtain ⟨d, _, _, _, d1, d2⟩ := one_behind F.plain F.free F.val2 hlen hfull (hst (m - 1)) k0.1 k0.2 (b := stepS T (homeN T key) m) (by rw [← step_next6]; congr 1; omega) (Sh.mid m h1 h2)
    omega
  have old : ∀ m, Lok (awayOf T (stepS T (homeN T key) m : Nat)) (nth T.zs (stepS T (homeN T key) m)) (awayOf T (stepS T (homeN T key) (m + 1) : Nat)) (nth T.zs (stepS T (homeN T key) (m + 1))) := fun m => by
    have := fair_lok hfa (hst m)
    rwa [← step_next6] at this
  have oldE : awayOf T (stepS T (homeN T key) (endF T key + 1) : Nat) ≤ 0 := by
    have h1 := old (endF T key)
    rw [free_away (i := stepS T (homeN T key) (endF T key)) (by rw [F.eat]; omega)] at h1
    rcases h1 with h | ⟨h, _⟩ | ⟨h, _⟩ <;> omega
  have zero : stepS T (homeN T key) T.zs.length = stepS T (homeN T key) 0 := by unfold stepS; rw [Nat.add_mod_right]; rfl
  have main : ∀ m, m < T.zs.length → Lok (awayOf (tab T (fputZ T key)) (stepS T (homeN T key) m : Nat)) (nth (fputZ T key) (stepS T (homeN T key) m)) (awayOf (tab T (fputZ T key)) (stepS T (homeN T key) (m + 1) : Nat)) (nth (fputZ T key) (stepS T (homeN T key) (m + 1))) := fun m hm => by
    by_cases wrap : m + 1 = T.zs.length
    · rw [wrap, zero]
      by_cases g0 : giveN T key = 0
      · rw [g0] at atg
        exact .inl (by rw [atg]; simp)
      · have e0 := Sh.low 0 (by omega)
        rw [same 0 e0]
        by_cases mE : m = endF T key
        · left
          rw [← mE, wrap, zero] at oldE
          exact oldE
        · have e1 := Sh.high m (by omega) hm
          rw [same m e1, e1, e0]
          have := old m
          rw [wrap, zero] at this
          exact this
    · by_cases c1 : m + 1 < giveN T key
      · have e1 := Sh.low m (by omega)
        have e2 := Sh.low (m + 1) c1
        rw [same m e1, same (m + 1) e2, e1, e2]
        exact old m
      · by_cases c2 : m + 1 = giveN T key
        · have e1 := Sh.low m (by omega)
          rw [same m e1, e1, c2, atg, Sh.at_]
          have ha : aheadB T (stepS T (homeN T key) m) key m = true := by
            have := goN_free (p := fun d => !aheadB T (stepS T (homeN T key) d) key d) (n := endF T key) (j := m) (show m < giveN T key by omega)
            simpa using this
          unfold aheadB at ha
          simp only [Bool.or_eq_true, Bool.and_eq_true, decide_eq_true_eq, beq_iff_eq] at ha
          rcases ha with ha | ⟨ha, hx⟩
          · exact .inr (.inl ⟨by omega, by omega⟩)
          · exact .inr (.inr ⟨by omega, by omega, hx⟩)
        · by_cases c3 : m < giveN T key
          · omega
          · by_cases c4 : endF T key < m
            · have e1 := Sh.high m c4 hm
              have e2 := Sh.high (m + 1) (by omega) (by omega)
              rw [same m e1, same (m + 1) e2, e1, e2]
              exact old m
            · by_cases c5 : m = endF T key
              · left
                have e2 := Sh.high (m + 1) (by omega) (by omega)
                rw [same (m + 1) e2, c5]
                exact oldE
              · obtain ⟨b1, b2⟩ := mid (m + 1) (by omega) (by omega)
                rw [Nat.add_sub_cancel] at b1 b2
                have eb := Sh.mid (m + 1) (by omega) (by omega)
                rw [Nat.add_sub_cancel] at eb
                rw [b1, eb]
                by_cases c6 : m = giveN T key
                · rw [c6, atg, Sh.at_, ← c6]
                  have ha : aheadB T (stepS T (homeN T key) m) key m = false := by
                    have := goN_stop (p := fun d => !aheadB T (stepS T (homeN T key) d) key d) (n := endF T key) (show giveN T key < endF T key by omega)
                    rw [c6]
                    simpa [giveN] using this
                  have hne := F.no _ (hst m)
                  unfold aheadB at ha
                  simp only [Bool.or_eq_false_iff, Bool.and_eq_false_iff, decide_eq_false_iff_not, beq_eq_false_iff_ne] at ha
                  obtain ⟨h1, h2⟩ := ha
                  by_cases c7 : awayOf T (stepS T (homeN T key) m : Nat) = (m : Int)
                  · rcases h2 with h2 | h2
                    · exact absurd c7 h2
                    · exact .inr (.inr ⟨by omega, by omega, by omega⟩)
                  · exact .inr (.inl ⟨by omega, by omega⟩)
                · obtain ⟨a1, a2⟩ := mid m (by omega) (by omega)
                  have ea := Sh.mid m (by omega) (by omega)
                  rw [a1, ea]
                  have := old (m - 1)
                  rw [show m - 1 + 1 = m by omega] at this
                  rcases this with h | ⟨h1, h2⟩ | ⟨h1, h2, h3⟩
                  · exact .inr (.inl ⟨by omega, by omega⟩)
                  · exact .inr (.inl ⟨by omega, by omega⟩)
                  · exact .inr (.inr ⟨by omega, by omega, h3⟩)
  refine lok_fair F.val2 (fun i hi => ?_) ?_ fun i hi => ?_
  · have hi' : i < T.zs.length := by have : i < (fputZ T key).length := hi; omega
    rcases fput_from (T := T) (key := key) l1 i hi' with e | e
    · show nth (fputZ T key) i ≠ -2
      have := F.key0; omega
    · obtain ⟨j, hj, ej⟩ := mem_nth e
      show nth (fputZ T key) i ≠ -2
      rw [← ej]
      exact (plain_parts F.plain).2.2 j hj
  · have hcnt := fput_count (T := T) (key := key) (by simp [fputOk, hfa, hc, hk, none_find F.val F.no])
    simp only [countF, F.val, if_true] at hc
    have hne : cnt freeP (fputZ T key) (fputZ T key).length ≠ 0 := by rw [hlen]; omega
    obtain ⟨f, hf, hff⟩ : ∃ f, f < (fputZ T key).length ∧ nth (fputZ T key) f = -1 := by
      by_cases c : ∃ f, f < (fputZ T key).length ∧ nth (fputZ T key) f = -1
      · exact c
      · exact absurd (cnt_none fun i hi => by
          have : nth (fputZ T key) i ≠ -1 := fun e => c ⟨i, hi, e⟩
          simp [freeP, this]) hne
    show -1 ∈ fputZ T key
    rw [← hff]
    exact nth_mem hf
  · have hi' : i < T.zs.length := by have : i < (fputZ T key).length := hi; omega
    obtain ⟨s1, s2⟩ := step_away hh hi'
    have := main _ s2
    rw [step_next6, s1] at this
    have e : (tab T (fputZ T key)).zs.length = T.zs.length := hlen
    rw [e]
    exact this

end Go.Proofs.YtkdkdmjhhgllgaaGreatDoor

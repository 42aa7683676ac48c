/-
  Tables, finding, putting and runs as plain functions, and what is true of them. No program.
-/
import Derived.RowKit3
import Derived.RangeFuncBox
import Derived.RangeFuncNested
import Derived.OwnWalkIn
namespace Go.Proofs.YtpncpeokdcolpaaGreatDoor

/-- A table as data. -/
structure Tab where
  t : Int
  p : Int
  zs : List Int

/-- lo to hi, both included -/
def inB (n lo hi : Int) : Bool := decide (lo ≤ n) && decide (n ≤ hi)
theorem inB_true {n lo hi : Int} (h : lo ≤ n ∧ n ≤ hi) : inB n lo hi = true := by simp [inB, h]
theorem inB_iff {n lo hi : Int} : inB n lo hi = true ↔ lo ≤ n ∧ n ≤ hi := by simp [inB]
theorem inB_false {n lo hi : Int} : inB n lo hi = false ↔ ¬ (lo ≤ n ∧ n ≤ hi) := by rw [← inB_iff]; simp

/-- The head of a table: its size, Times and Plus. -/
def headB (size times plus : Int) : Bool := inB size 1 16 && (inB times 0 15 && inB plus 0 15)
theorem head_size {n t p : Int} (h : headB n t p = true) : inB n 1 16 = true ∧ inB t 0 15 = true ∧ inB p 0 15 = true := by simpa [headB, and_assoc] using h

/-- What slot i of a list holds (0 behind its end). -/
abbrev nth (zs : List Int) (i : Nat) : Int := zs[i]?.getD 0

/-- The first k slots hold keys, free slots or tombs, and no key twice. -/
def Good (zs : List Int) (k : Nat) : Prop := ∀ i, i < k → inB (nth zs i) (-2) 99 = true ∧ (0 ≤ nth zs i → ∀ j, j < i → nth zs j ≠ nth zs i)
instance (zs : List Int) (k : Nat) : Decidable (Good zs k) := by unfold Good; infer_instance

def validB (T : Tab) : Bool := headB T.zs.length T.t T.p && decide (Good T.zs T.zs.length)
theorem validB_iff {T : Tab} : validB T = true ↔ headB T.zs.length T.t T.p = true ∧ Good T.zs T.zs.length := by simp [validB]

theorem Good.zero (zs : List Int) : Good zs 0 := fun _ h => by omega
theorem Good.succ {zs : List Int} {k : Nat} (h : Good zs k) (h1 : inB (nth zs k) (-2) 99 = true) (h2 : 0 ≤ nth zs k → ∀ j, j < k → nth zs j ≠ nth zs k) : Good zs (k + 1) := by
  intro i hi
  by_cases e : i = k
  · subst e; exact ⟨h1, h2⟩
  · exact h i (by omega)
theorem not_good {zs : List Int} {k n : Nat} (hk : k < n) (h : ¬ (inB (nth zs k) (-2) 99 = true ∧ (0 ≤ nth zs k → ∀ j, j < k → nth zs j ≠ nth zs k))) : ¬ Good zs n := fun hg => h (hg k hk)

/-- The first slot that holds n, or -1. -/
def fnd (zs : List Int) (n : Int) : Int := if zs.findIdx (· == n) < zs.length then zs.findIdx (· == n) else -1
theorem fnd_at {zs : List Int} {n : Int} {k : Nat} (hk : k < zs.length) (h : ∀ j, j < k → nth zs j ≠ n) (he : nth zs k = n) : fnd zs n = k := by
  have e : zs.findIdx (· == n) = k := by
    refine (List.findIdx_eq hk).2 ⟨?_, fun j hj => ?_⟩
    · rw [nth, List.getElem?_eq_getElem hk] at he
      simpa using he
    · have := h j hj
      rw [nth, List.getElem?_eq_getElem (by omega)] at this
      simpa using this
  simp [fnd, e, hk]
theorem fnd_none {zs : List Int} {n : Int} (h : ∀ j, j < zs.length → nth zs j ≠ n) : fnd zs n = -1 := by
  have e : zs.findIdx (· == n) = zs.length := by
    rw [List.findIdx_eq_length]
    intro x hx
    obtain ⟨j, hj, rfl⟩ := List.mem_iff_getElem.1 hx
    have := h j hj
    rw [nth, List.getElem?_eq_getElem hj] at this
    simpa using this
  simp [fnd, e]
theorem fnd_cases (zs : List Int) (n : Int) : (fnd zs n = -1 ∧ ∀ j, j < zs.length → nth zs j ≠ n) ∨ (∃ k : Nat, k < zs.length ∧ fnd zs n = k ∧ nth zs k = n ∧ ∀ j, j < k → nth zs j ≠ n) := by
  by_cases h : zs.findIdx (· == n) < zs.length
  · right
    refine ⟨zs.findIdx (· == n), h, by simp [fnd, h], ?_, fun j hj => ?_⟩
    · have := List.findIdx_getElem (w := h)
      rw [nth, List.getElem?_eq_getElem h]
      simpa using this
    · have := List.not_of_lt_findIdx hj
      rw [nth, List.getElem?_eq_getElem (by omega)]
      simpa using this
  · left
    refine ⟨by simp [fnd, h], fun j hj => ?_⟩
    have h1 : zs.findIdx (· == n) = zs.length := Nat.le_antisymm (List.findIdx_le_length) (by omega)
    have := (List.findIdx_eq_length (p := (· == n))).1 h1 zs[j] (List.getElem_mem hj)
    rw [nth, List.getElem?_eq_getElem hj]
    simpa using this

theorem ne_step {zs : List Int} {n : Int} {k : Nat} (h : ∀ j, j < k → nth zs j ≠ n) (he : nth zs k ≠ n) : ∀ j, j < k + 1 → nth zs j ≠ n := by
  intro j hj
  by_cases e : j = k
  · subst e; exact he
  · exact h j (by omega)

theorem fnd_first {zs : List Int} {x : Int} {k : Nat} (hk : k < zs.length) (he : nth zs k = x) : fnd zs x = k ↔ ∀ j, j < k → nth zs j ≠ x := by
  constructor
  · intro h
    rcases fnd_cases zs x with ⟨h1, h2⟩ | ⟨m, hm, h1, h2, h3⟩
    · exact absurd he (h2 k hk)
    · obtain rfl : m = k := by omega
      exact h3
  · exact fun h => fnd_at hk h he
theorem fnd_step {zs : List Int} {x : Int} {k : Nat} (hk : k < zs.length) (he : nth zs k = x) (h : (fnd zs x != (k : Int)) = false) : 0 ≤ nth zs k → ∀ j, j < k → nth zs j ≠ nth zs k := by
  intro _
  rw [he]
  exact (fnd_first hk he).1 (by simpa using h)
theorem fnd_bad {zs : List Int} {x : Int} {k : Nat} (hk : k < zs.length) (he : nth zs k = x) (h0 : 0 ≤ x) (h : (fnd zs x != (k : Int)) = true) : ¬ (inB x (-2) 99 = true ∧ (0 ≤ x → ∀ j, j < k → nth zs j ≠ x)) := by
  intro hc
  have := (fnd_first hk he).2 (hc.2 h0)
  simp [this] at h

/-- The home of a key. -/
def homeI (T : Tab) (key : Int) : Int := (T.t * key + T.p) % T.zs.length

theorem mul_bounds {t k : Int} (h1 : 0 ≤ t) (h2 : t ≤ 15) (h3 : -2 ≤ k) (h4 : k ≤ 99) : -30 ≤ t * k ∧ t * k ≤ 1485 := by
  constructor
  · have := Int.mul_le_mul_of_nonneg_left h3 h1; omega
  · by_cases hk : 0 ≤ k
    · have := Int.mul_le_mul h2 h4 hk (by omega); omega
    · have := Int.mul_le_mul_of_nonneg_left (show k ≤ 0 by omega) h1; omega
theorem mul_nonneg' {t k : Int} (h1 : 0 ≤ t) (h3 : 0 ≤ k) : 0 ≤ t * k := Int.mul_nonneg h1 h3

/-- What a valid table gives. -/
theorem valid_facts {T : Tab} (h : validB T = true) : (1 ≤ T.zs.length ∧ T.zs.length ≤ 16) ∧ (0 ≤ T.t ∧ T.t ≤ 15) ∧ (0 ≤ T.p ∧ T.p ≤ 15) ∧ Good T.zs T.zs.length := by
  obtain ⟨h1, h2⟩ := validB_iff.1 h
  obtain ⟨a, b, c⟩ := head_size h1
  obtain ⟨a1, a2⟩ := inB_iff.1 a
  exact ⟨⟨by omega, by omega⟩, inB_iff.1 b, inB_iff.1 c, h2⟩
theorem valid_slot {T : Tab} (h : validB T = true) {i : Nat} (hi : i < T.zs.length) : -2 ≤ nth T.zs i ∧ nth T.zs i ≤ 99 := inB_iff.1 ((valid_facts h).2.2.2 i hi).1

theorem homeI_bounds {T : Tab} (h : validB T = true) (key : Int) : 0 ≤ homeI T key ∧ homeI T key < T.zs.length := by
  have h1 := (valid_facts h).1
  exact ⟨Int.emod_nonneg _ (by omega), Int.emod_lt_of_pos _ (by omega)⟩

theorem tmod_bounds (x : Int) {n : Int} (hn : 0 < n) : -n < x.tmod n ∧ x.tmod n < n := by
  have h2 := Int.tmod_lt_of_pos x hn
  refine ⟨?_, h2⟩
  have h3 := Int.tmod_lt_of_pos (-x) hn
  rw [Int.neg_tmod] at h3
  omega
theorem wrap_mod (x n : Int) : (x.tmod n + n) % n = x % n := by
  have h : n * x.tdiv n + x.tmod n = x := Int.mul_tdiv_add_tmod x n
  have e : x % n = (x.tmod n + n * x.tdiv n) % n := by rw [Int.add_comm (x.tmod n), h]
  rw [Int.add_emod_right, e, Int.add_mul_emod_self_left]

/-- HomeOf of the document. -/
def homeOf (T : Tab) (key : Int) : Int := if validB T && inB key 0 99 then homeI T key else -1
theorem homeOf_no {T : Tab} {key : Int} (h : validB T = false ∨ inB key 0 99 = false) : -1 = homeOf T key := by
  unfold homeOf
  rcases h with h | h <;> simp [h]
theorem homeOf_yes {T : Tab} {key : Int} (h : validB T = true) (hk : inB key 0 99 = true) : homeI T key = homeOf T key := by simp [homeOf, h, hk]

end Go.Proofs.YtpncpeokdcolpaaGreatDoor

namespace Go.Proofs.YtpncpeokdcolpaaGreatDoor

/-- AwayOf of the document. -/
def awayOf (T : Tab) (slot : Int) : Int :=
  if validB T && inB slot 0 (T.zs.length - 1) && decide (0 ≤ nth T.zs slot.toNat) then (slot - homeI T (nth T.zs slot.toNat)) % T.zs.length else -1
theorem awayOf_no {T : Tab} {slot : Int} (h : validB T = false ∨ inB slot 0 (T.zs.length - 1) = false ∨ nth T.zs slot.toNat < 0) : -1 = awayOf T slot := by
  unfold awayOf
  rcases h with h | h | h
  · simp [h]
  · simp [h]
  · simp only [show ¬ 0 ≤ nth T.zs slot.toNat by omega, decide_false, Bool.and_false]; rfl
theorem awayOf_yes {T : Tab} {k : Nat} {x : Int} (h : validB T = true) (hk : k < T.zs.length) (hx : nth T.zs k = x) (h0 : 0 ≤ x) : ((k : Int) - homeI T x) % T.zs.length = awayOf T k := by
  have h1 : inB (k : Int) 0 (T.zs.length - 1) = true := inB_true (by omega)
  subst hx
  unfold awayOf
  rw [if_pos (by simp only [h, h1, Int.toNat_natCast, Bool.true_and, decide_eq_true_eq]; exact h0), Int.toNat_natCast]

/-- How many of the first k slots are so. -/
def cnt (p : Int → Bool) (zs : List Int) (k : Nat) : Nat := (zs.take k).countP p
theorem cnt_zero (p : Int → Bool) (zs : List Int) : cnt p zs 0 = 0 := by simp [cnt]
theorem cnt_succ {p : Int → Bool} {zs : List Int} {k : Nat} {x : Int} (hk : k < zs.length) (hx : nth zs k = x) : cnt p zs (k + 1) = cnt p zs k + (if p x then 1 else 0) := by
  have h : zs[k] = x := by simpa [nth, List.getElem?_eq_getElem hk] using hx
  rw [cnt, List.take_succ_eq_append_getElem hk, List.countP_append, h]
  simp [cnt, List.countP_cons]
theorem cnt_le (p : Int → Bool) (zs : List Int) (k : Nat) : cnt p zs k ≤ zs.length := Nat.le_trans List.countP_le_length (by simp; omega)
def keyP (x : Int) : Bool := !(x == -1) && !(x == -2)
def tombP (x : Int) : Bool := x == -2
def freeP (x : Int) : Bool := x == -1
/-- CountSlots of the document. -/
def countK (T : Tab) : Int := if validB T then cnt keyP T.zs T.zs.length else -1
def countT (T : Tab) : Int := if validB T then cnt tombP T.zs T.zs.length else -1
def countF (T : Tab) : Int := if validB T then cnt freeP T.zs T.zs.length else -1

/-- The keys below j that a list has, in order. -/
def sortTo (zs : List Int) (j : Nat) : List Int := ((List.range j).filter (fun k : Nat => decide (0 ≤ fnd zs k))).map (fun k : Nat => (k : Int))
/-- The keys of a list, in order, each once. -/
def sortU (zs : List Int) : List Int := sortTo zs 100
theorem sortTo_zero (zs : List Int) : sortTo zs 0 = [] := rfl
theorem sortTo_yes {zs : List Int} {j : Nat} (h : 0 ≤ fnd zs j) : sortTo zs (j + 1) = sortTo zs j ++ [(j : Int)] := by
  simp [sortTo, List.range_succ, List.filter_append, h]
theorem sortTo_no {zs : List Int} {j : Nat} (h : fnd zs j < 0) : sortTo zs (j + 1) = sortTo zs j := by
  have : ¬ 0 ≤ fnd zs j := by omega
  simp [sortTo, List.range_succ, List.filter_append, this]
theorem sortTo_len (zs : List Int) (j : Nat) : (sortTo zs j).length ≤ j := by
  simp only [sortTo, List.length_map]
  exact Nat.le_trans (List.length_filter_le _ _) (by simp)
theorem mem_sortTo {zs : List Int} {j : Nat} {x : Int} : x ∈ sortTo zs j ↔ ∃ k : Nat, k < j ∧ x = k ∧ 0 ≤ fnd zs k := by
  simp only [sortTo, List.mem_map, List.mem_filter, List.mem_range, decide_eq_true_eq]
  constructor
  · rintro ⟨k, ⟨h1, h2⟩, rfl⟩; exact ⟨k, h1, rfl, h2⟩
  · rintro ⟨k, h1, rfl, h2⟩; exact ⟨k, ⟨h1, h2⟩, rfl⟩

end Go.Proofs.YtpncpeokdcolpaaGreatDoor

namespace Go.Proofs.YtpncpeokdcolpaaGreatDoor

/-- Back along a ring. -/
theorem wsub {a b n : Int} (a0 : 0 ≤ a) (a1 : a < n) (b0 : 0 ≤ b) (b1 : b < n) : (a - b) % n = if b ≤ a then a - b else a - b + n := by
  split
  · exact Int.emod_eq_of_lt (by omega) (by omega)
  · rw [← Int.add_emod_right]
    exact Int.emod_eq_of_lt (by omega) (by omega)
/-- On along a ring. -/
theorem wadd {a b n : Int} (a0 : 0 ≤ a) (a1 : a < n) (b0 : 0 ≤ b) (b1 : b < n) : (a + b) % n = if a + b < n then a + b else a + b - n := by
  split
  · exact Int.emod_eq_of_lt (by omega) (by omega)
  · rw [← Int.sub_emod_right]
    exact Int.emod_eq_of_lt (by omega) (by omega)
theorem nadd {a b n : Nat} (a1 : a < n) (b1 : b ≤ n) : (a + b) % n = if a + b < n then a + b else a + b - n := by
  split
  · exact Nat.mod_eq_of_lt (by omega)
  · rw [Nat.mod_eq_sub_mod (by omega)]
    exact Nat.mod_eq_of_lt (by omega)

theorem Good.inj {zs : List Int} {n i j : Nat} (h : Good zs n) (hi : i < n) (hj : j < n) (e : nth zs i = nth zs j) (h0 : 0 ≤ nth zs i) : i = j := by
  rcases Nat.lt_trichotomy i j with h1 | h1 | h1
  · exact absurd e ((h j hj).2 (by omega) i h1)
  · exact h1
  · exact absurd e.symm ((h i hi).2 h0 j h1)

def turnL (zs : List Int) : List Int := (List.range zs.length).map fun i => nth zs ((i + zs.length - 1) % zs.length)
/-- A table turned by a slot, whose Plus is one greater. -/
def turn (T : Tab) : Tab := ⟨T.t, T.p + 1, turnL T.zs⟩
theorem turnL_len (zs : List Int) : (turnL zs).length = zs.length := by simp [turnL]
theorem turn_len (T : Tab) : (turn T).zs.length = T.zs.length := turnL_len _
theorem turnL_nth {zs : List Int} {i : Nat} (hi : i < zs.length) : nth (turnL zs) i = nth zs ((i + zs.length - 1) % zs.length) := by
  simp [nth, turnL, hi]
theorem turn_back {i n : Nat} (hi : i < n) : ((i + 1) % n + n - 1) % n = i := by
  have h1 := nadd (b := 1) hi (by omega)
  rw [h1]
  split
  · rw [show i + 1 + n - 1 = i + n by omega, Nat.add_mod_right, Nat.mod_eq_of_lt hi]
  · rw [show i + 1 - n + n - 1 = i by omega, Nat.mod_eq_of_lt hi]
theorem turn_on {i n : Nat} (hi : i < n) : ((i + n - 1) % n + 1) % n = i := by
  by_cases h : i = 0
  · subst h
    rw [show 0 + n - 1 = n - 1 by omega, Nat.mod_eq_of_lt (show n - 1 < n by omega), show n - 1 + 1 = n by omega, Nat.mod_self]
  · rw [show i + n - 1 = (i - 1) + n by omega, Nat.add_mod_right, Nat.mod_eq_of_lt (show i - 1 < n by omega), show i - 1 + 1 = i by omega, Nat.mod_eq_of_lt hi]
theorem turnL_succ {zs : List Int} {i : Nat} (hi : i < zs.length) : nth (turnL zs) ((i + 1) % zs.length) = nth zs i := by
  rw [turnL_nth (Nat.mod_lt _ (by omega)), turn_back hi]

theorem turn_valid {T : Tab} (h : validB T = true) (hp : T.p < 15) : validB (turn T) = true := by
  obtain ⟨⟨l1, l2⟩, ⟨t1, t2⟩, ⟨p1, p2⟩, hg⟩ := valid_facts h
  rw [validB_iff]
  refine ⟨?_, fun i hi => ?_⟩
  · show headB _ T.t (T.p + 1) = true
    rw [turn_len]
    simp only [headB, inB, Bool.and_eq_true, decide_eq_true_eq]
    omega
  · rw [turn_len] at hi
    have e : nth (turn T).zs i = _ := turnL_nth hi
    have m1 : (i + T.zs.length - 1) % T.zs.length < T.zs.length := Nat.mod_lt _ (by omega)
    rw [e]
    refine ⟨(hg _ m1).1, fun h0 j hj e2 => ?_⟩
    have e3 : nth (turn T).zs j = _ := turnL_nth (show j < T.zs.length by omega)
    rw [e3] at e2
    have := hg.inj (Nat.mod_lt _ (by omega)) m1 e2 (by rw [e2]; exact h0)
    have h1 := turn_on hi
    have h2 := turn_on (show j < T.zs.length by omega)
    rw [this] at h2
    omega

theorem turn_home (T : Tab) (key : Int) : homeI (turn T) key = (homeI T key + 1) % T.zs.length := by
  unfold homeI
  rw [turn_len, Int.emod_add_emod]
  show (T.t * key + (T.p + 1)) % _ = _
  rw [← Int.add_assoc]

theorem turn_homeOf {T : Tab} {key : Int} (h : validB T = true) (hp : T.p < 15) (hk : inB key 0 99 = true) : homeOf (turn T) key = (homeOf T key + 1) % T.zs.length := by
  rw [← homeOf_yes h hk, ← homeOf_yes (turn_valid h hp) hk, turn_home]

theorem ring_turn (a b n : Int) : ((a + 1) % n - (b + 1) % n) % n = (a - b) % n := by
  rw [← Int.sub_emod, show a + 1 - (b + 1) = a - b by omega]

theorem turn_away {T : Tab} (h : validB T = true) (hp : T.p < 15) {i : Nat} (hi : i < T.zs.length) : awayOf (turn T) (((i + 1) % T.zs.length : Nat) : Int) = awayOf T i := by
  have hn := turn_len T
  have m : (i + 1) % T.zs.length < T.zs.length := Nat.mod_lt _ (by omega)
  have e : nth (turn T).zs ((i + 1) % T.zs.length) = nth T.zs i := turnL_succ hi
  by_cases h0 : 0 ≤ nth T.zs i
  · rw [← awayOf_yes h hi rfl h0, ← awayOf_yes (turn_valid h hp) (by omega) e h0, turn_home, hn]
    have := ring_turn i (homeI T (nth T.zs i)) T.zs.length
    rw [← this]
    congr 2
  · rw [← awayOf_no (T := T) (slot := (i : Int)) (.inr (.inr (by rw [Int.toNat_natCast]; omega))), ← awayOf_no (T := turn T) (slot := (((i + 1) % T.zs.length : Nat) : Int)) (.inr (.inr (by rw [Int.toNat_natCast, e]; omega)))]

/-- What is known of a key's home. -/
theorem homeOf_cases (T : Tab) (key : Int) : (homeOf T key = -1 ∧ (validB T = false ∨ inB key 0 99 = false)) ∨ (homeOf T key = homeI T key ∧ validB T = true ∧ (0 ≤ key ∧ key ≤ 99) ∧ 0 ≤ homeI T key ∧ homeI T key < T.zs.length) := by
  cases hv : validB T
  · exact .inl ⟨(homeOf_no (.inl hv)).symm, .inl rfl⟩
  · cases hk : inB key 0 99
    · exact .inl ⟨(homeOf_no (.inr hk)).symm, .inr rfl⟩
    · exact .inr ⟨(homeOf_yes hv hk).symm, rfl, inB_iff.1 hk, homeI_bounds hv key⟩

theorem home_rest (T : Tab) (key : Int) : (T.t * key + T.p - homeI T key) % T.zs.length = 0 := by
  unfold homeI
  rw [← Int.emod_eq_emod_iff_emod_sub_eq_zero]
  simp

theorem home_apart (T : Tab) (key : Int) : (T.zs.length : Int) ∣ (homeI T (key + 1) - homeI T key - T.t) := by
  unfold homeI
  apply Int.dvd_of_emod_eq_zero
  rw [Int.sub_emod, ← Int.sub_emod (T.t * (key + 1) + T.p) (T.t * key + T.p), ← Int.sub_emod]
  have : T.t * (key + 1) + T.p - (T.t * key + T.p) - T.t = 0 := by rw [Int.mul_add]; omega
  rw [this]; simp
theorem home_apart_t (T : Tab) (key : Int) : (homeI T (key + 1) - homeI T key - T.t).tmod T.zs.length = 0 := Int.tmod_eq_zero_of_dvd (home_apart T key)
theorem home_far (T : Tab) (key : Int) : homeI T (key + T.zs.length) = homeI T key := by
  unfold homeI
  rw [Int.mul_add, show T.t * key + T.t * T.zs.length + T.p = T.t * key + T.p + T.t * T.zs.length by omega, Int.add_mul_emod_self_right]

theorem away_back {a b n : Int} (a0 : 0 ≤ a) (a1 : a < n) : (b + (a - b) % n) % n = a := by
  rw [Int.add_emod_emod, show b + (a - b) = a by omega, Int.emod_eq_of_lt a0 a1]

/-- What is known of how far a slot lies from home. -/
theorem awayOf_cases (T : Tab) (slot : Int) : awayOf T slot = -1 ∨ ∃ (k : Nat) (x : Int), slot = k ∧ k < T.zs.length ∧ nth T.zs k = x ∧ 0 ≤ x ∧ x ≤ 99 ∧ validB T = true ∧ awayOf T slot = (k - homeI T x) % T.zs.length ∧ 0 ≤ awayOf T slot ∧ awayOf T slot < T.zs.length := by
  cases hv : validB T
  · exact .inl (awayOf_no (.inl hv)).symm
  · cases hs : inB slot 0 (T.zs.length - 1)
    · exact .inl (awayOf_no (.inr (.inl hs))).symm
    · obtain ⟨s0, s1⟩ := inB_iff.1 hs
      obtain ⟨k, rfl⟩ : ∃ k : Nat, slot = k := ⟨slot.toNat, by omega⟩
      by_cases h0 : 0 ≤ nth T.zs k
      · have hk : k < T.zs.length := by omega
        have hb := valid_slot hv hk
        have e := awayOf_yes hv hk rfl h0
        refine .inr ⟨k, _, rfl, hk, rfl, h0, hb.2, rfl, e.symm, ?_, ?_⟩
        · rw [← e]; exact Int.emod_nonneg _ (by omega)
        · rw [← e]; exact Int.emod_lt_of_pos _ (by omega)
      · exact .inl (awayOf_no (.inr (.inr (by simpa using h0)))).symm

end Go.Proofs.YtpncpeokdcolpaaGreatDoor

namespace Go.Proofs.YtpncpeokdcolpaaGreatDoor

theorem good_nodup {zs : List Int} (h : Good zs zs.length) : (zs.filter fun x => inB x 0 99).Nodup := by
  rw [List.nodup_iff_pairwise_ne, List.pairwise_filter]
  rw [List.pairwise_iff_getElem]
  intro i j hi hj hij h1 h2 e
  have hi' : nth zs i = zs[i] := by simp [nth, List.getElem?_eq_getElem hi]
  have hj' : nth zs j = zs[j] := by simp [nth, List.getElem?_eq_getElem hj]
  have h3 := (inB_iff.1 h1).1
  have := h.inj hi hj (by rw [hi', hj', e]) (by rw [hi']; exact h3)
  omega

theorem sortU_pairwise (zs : List Int) : (sortU zs).Pairwise (· < ·) := by
  unfold sortU sortTo
  rw [List.pairwise_map]
  refine List.Pairwise.filter _ ?_
  refine List.pairwise_lt_range.imp ?_
  intro a b h
  omega

theorem sortU_mem {zs : List Int} {x : Int} : x ∈ sortU zs ↔ (0 ≤ x ∧ x ≤ 99) ∧ x ∈ zs := by
  unfold sortU
  rw [mem_sortTo]
  constructor
  · rintro ⟨k, hk, rfl, h⟩
    rcases fnd_cases zs (k : Int) with ⟨h1, _⟩ | ⟨j, hj, _, h2, _⟩
    · omega
    · refine ⟨by omega, ?_⟩
      rw [← h2, nth, List.getElem?_eq_getElem hj]
      exact List.getElem_mem hj
  · rintro ⟨⟨h0, h1⟩, h⟩
    obtain ⟨k, rfl⟩ : ∃ k : Nat, x = k := ⟨x.toNat, by omega⟩
    refine ⟨k, by omega, rfl, ?_⟩
    rcases fnd_cases zs (k : Int) with ⟨_, h2⟩ | ⟨j, hj, e, _⟩
    · obtain ⟨i, hi, e⟩ := List.getElem_of_mem h
      exact absurd (by rw [nth, List.getElem?_eq_getElem hi]; simpa using e) (h2 i hi)
    · omega

theorem sort_keys {zs : List Int} (h : Good zs zs.length) : ((zs.filter fun x => inB x 0 99).mergeSort fun x y => decide (x ≤ y)) = sortU zs := by
  have hp := List.mergeSort_perm (zs.filter fun x => inB x 0 99) (fun x y => decide (x ≤ y))
  have hs := List.pairwise_mergeSort (le := fun x y : Int => decide (x ≤ y)) (fun a b c h1 h2 => by simp at *; omega) (fun a b => by simp; omega) (zs.filter fun x => inB x 0 99)
  have hu := sortU_pairwise zs
  have hperm : (zs.filter fun x => inB x 0 99).Perm (sortU zs) := by
    rw [List.perm_ext_iff_of_nodup (good_nodup h) (hu.imp fun h => by omega)]
    intro x
    rw [List.mem_filter, sortU_mem, inB_iff]
    exact And.comm
  refine List.Perm.eq_of_pairwise (le := fun x y : Int => decide (x ≤ y) = true) (fun a b _ _ h1 h2 => ?_) hs (hu.imp fun h => ?_) (hp.trans hperm)
  · simp at h1 h2; omega
  · simp; omega

end Go.Proofs.YtpncpeokdcolpaaGreatDoor

namespace Go.Proofs.YtpncpeokdcolpaaGreatDoor

/-- The slot to which one comes by i steps from h on. -/
def stepS (T : Tab) (h i : Nat) : Nat := (h + i) % T.zs.length
theorem stepS_lt {T : Tab} (hn : 1 ≤ T.zs.length) (h i : Nat) : stepS T h i < T.zs.length := Nat.mod_lt _ (by omega)

/-- A slot at which one stops who looks for a key. -/
def stopAt (T : Tab) (key : Int) (h i : Nat) : Bool := nth T.zs (stepS T h i) == -1 || nth T.zs (stepS T h i) == key

/-- How many of the first n steps are taken without a stop. -/
def goN (p : Nat → Bool) (n : Nat) : Nat := (List.range n).findIdx p
theorem goN_le (p : Nat → Bool) (n : Nat) : goN p n ≤ n := by
  have := List.findIdx_le_length (p := p) (xs := List.range n)
  simpa [goN] using this
theorem goN_free {p : Nat → Bool} {n j : Nat} (hj : j < goN p n) : p j = false := by
  have h1 := goN_le p n
  have h2 := List.not_of_lt_findIdx (p := p) (xs := List.range n) (i := j) hj
  simpa using h2
theorem goN_stop {p : Nat → Bool} {n : Nat} (h : goN p n < n) : p (goN p n) = true := by
  have h2 := List.findIdx_getElem (p := p) (xs := List.range n) (w := by simpa [goN] using h)
  simpa [goN] using h2
theorem goN_eq {p : Nat → Bool} {n i : Nat} (hi : i < n) (h : ∀ j, j < i → p j = false) (hp : p i = true) : goN p n = i := by
  have h1 := goN_le p n
  rcases Nat.lt_trichotomy (goN p n) i with h2 | h2 | h2
  · have := goN_stop (p := p) (n := n) (by omega)
    rw [h _ h2] at this
    cases this
  · exact h2
  · have := goN_free (p := p) (n := n) h2
    rw [hp] at this
    cases this
theorem goN_all {p : Nat → Bool} {n : Nat} (h : ∀ j, j < n → p j = false) : goN p n = n := by
  have h1 := goN_le p n
  by_cases h2 : goN p n < n
  · have := goN_stop h2
    rw [h _ h2] at this
    cases this
  · omega

/-- How many slots are visited to find a key: the last one included. -/
def visN (T : Tab) (key : Int) (h : Nat) : Nat := min (goN (stopAt T key h) T.zs.length + 1) T.zs.length
theorem visN_stop {T : Tab} {key : Int} {h i : Nat} (hi : i < T.zs.length) (hf : ∀ j, j < i → stopAt T key h j = false) (hp : stopAt T key h i = true) : visN T key h = i + 1 := by
  unfold visN
  rw [goN_eq hi hf hp]
  omega
theorem visN_all {T : Tab} {key : Int} {h : Nat} (hf : ∀ j, j < T.zs.length → stopAt T key h j = false) : visN T key h = T.zs.length := by
  unfold visN
  rw [goN_all hf]
  omega
theorem visN_bounds {T : Tab} (hn : 1 ≤ T.zs.length) (key : Int) (h : Nat) : 1 ≤ visN T key h ∧ visN T key h ≤ T.zs.length := by
  unfold visN
  omega

/-- The slots of the first k steps. -/
def wayTo (T : Tab) (h k : Nat) : List Int := (List.range k).map fun i => (stepS T h i : Int)
theorem wayTo_succ (T : Tab) (h k : Nat) : wayTo T h (k + 1) = wayTo T h k ++ [(stepS T h k : Int)] := by
  simp [wayTo, List.range_succ]
theorem wayTo_len (T : Tab) (h k : Nat) : (wayTo T h k).length = k := by simp [wayTo]
theorem wayTo_nth {T : Tab} {h k i : Nat} (hi : i < k) : nth (wayTo T h k) i = stepS T h i := by
  simp [nth, wayTo, hi]

def homeN (T : Tab) (key : Int) : Nat := (homeI T key).toNat
theorem homeN_eq {T : Tab} (h : validB T = true) (key : Int) : (homeN T key : Int) = homeI T key := by
  have := homeI_bounds h key
  unfold homeN
  omega
theorem homeN_lt {T : Tab} (h : validB T = true) (key : Int) : homeN T key < T.zs.length := by
  have := homeI_bounds h key
  unfold homeN
  omega

/-- The slots that are visited for a key. -/
def wayOf (T : Tab) (key : Int) : List Int := wayTo T (homeN T key) (visN T key (homeN T key))
/-- The last slot that is visited for a key. -/
def lastOf (T : Tab) (key : Int) : Nat := stepS T (homeN T key) (visN T key (homeN T key) - 1)
/-- The slot where a key is found, or -1. -/
def findI (T : Tab) (key : Int) : Int := if nth T.zs (lastOf T key) = key then lastOf T key else -1

/-- FindKey, VisitsFor, LostKeys, IsSound, PlaceFor of the document. -/
def findOf (T : Tab) (key : Int) : Int := if validB T && inB key 0 99 then findI T key else -1
def visOf (T : Tab) (key : Int) : Int := if validB T && inB key 0 99 then visN T key (homeN T key) else -1
def lostOf (T : Tab) : List Int := if validB T then (sortU T.zs).filter (fun k => decide (findI T k < 0)) else []
def soundB (T : Tab) : Bool := validB T && decide (lostOf T = [])
/-- The first slot of a way that is free or a tomb, or -1. -/
def firstLow (zs : List Int) (way : List Int) : Int := ((way.find? fun k => decide (nth zs k.toNat < 0)).getD (-1))
def placeI (T : Tab) (key : Int) : Int := if validB T && inB key 0 99 && decide (findI T key < 0) then firstLow T.zs (wayOf T key) else -1

theorem lastOf_lt {T : Tab} (hn : 1 ≤ T.zs.length) (key : Int) : lastOf T key < T.zs.length := stepS_lt hn _ _
theorem findI_bounds {T : Tab} (hn : 1 ≤ T.zs.length) (key : Int) : -1 ≤ findI T key ∧ findI T key < T.zs.length := by
  have := lastOf_lt hn key
  unfold findI
  split <;> omega

end Go.Proofs.YtpncpeokdcolpaaGreatDoor

namespace Go.Proofs.YtpncpeokdcolpaaGreatDoor

theorem vis_free {T : Tab} {key : Int} {h i : Nat} (hi : i < visN T key h - 1) : stopAt T key h i = false :=
  goN_free (n := T.zs.length) (by unfold visN at hi; omega)
theorem stop_no {T : Tab} {key : Int} {h i : Nat} (hs : stopAt T key h i = false) : nth T.zs (stepS T h i) ≠ -1 ∧ nth T.zs (stepS T h i) ≠ key := by
  simpa [stopAt] using hs
theorem stop_is {T : Tab} {key : Int} {h i : Nat} (h1 : nth T.zs (stepS T h i) ≠ -1) (h2 : nth T.zs (stepS T h i) ≠ key) : stopAt T key h i = false := by
  simp [stopAt, h1, h2]
theorem stop_key {T : Tab} {key : Int} {h i : Nat} (h1 : nth T.zs (stepS T h i) = key) : stopAt T key h i = true := by
  simp [stopAt, h1]
theorem stop_free {T : Tab} {key : Int} {h i : Nat} (h1 : nth T.zs (stepS T h i) = -1) : stopAt T key h i = true := by
  simp [stopAt, h1]
theorem find_yes {T : Tab} {key : Int} (h : 0 ≤ findI T key) : findI T key = lastOf T key ∧ nth T.zs (lastOf T key) = key := by
  unfold findI at h ⊢
  split at h
  · rename_i h1
    exact ⟨if_pos h1, h1⟩
  · omega
theorem find_no {T : Tab} {key : Int} (h : findI T key < 0) : findI T key = -1 ∧ nth T.zs (lastOf T key) ≠ key := by
  unfold findI at h ⊢
  split at h
  · omega
  · rename_i h1
    exact ⟨if_neg h1, h1⟩
/-- A slot as a number of steps from another one. -/
theorem step_away {T : Tab} {h k : Nat} (hh : h < T.zs.length) (hk : k < T.zs.length) : stepS T h ((k + T.zs.length - h) % T.zs.length) = k ∧ (k + T.zs.length - h) % T.zs.length < T.zs.length := by
  refine ⟨?_, Nat.mod_lt _ (by omega)⟩
  rw [stepS, Nat.add_mod_mod, show h + (k + T.zs.length - h) = k + T.zs.length by omega, Nat.add_mod_right, Nat.mod_eq_of_lt hk]
theorem step_inj {T : Tab} {h i j : Nat} (hh : h < T.zs.length) (hi : i < T.zs.length) (hj : j < T.zs.length) (e : stepS T h i = stepS T h j) : i = j := by
  unfold stepS at e
  rw [nadd hh (by omega), nadd hh (by omega)] at e
  split at e <;> split at e <;> omega
/-- The steps from the home of a key to where it is. -/
theorem away_step {T : Tab} (hv : validB T = true) {j : Nat} {x : Int} (hj : j < T.zs.length) (hx : nth T.zs (stepS T (homeN T x) j) = x) (h0 : 0 ≤ x) : awayOf T (stepS T (homeN T x) j : Nat) = j := by
  obtain ⟨⟨l1, _⟩, _⟩ := valid_facts hv
  have hh := homeN_lt hv x
  have e := homeN_eq hv x
  rw [← awayOf_yes hv (stepS_lt l1 _ _) hx h0, ← e]
  have hl := stepS_lt (T := T) l1 (homeN T x) j
  rw [wsub (by omega) (by omega) (by omega) (by omega)]
  unfold stepS at hl ⊢
  rw [nadd hh (by omega)]
  split <;> split <;> omega

theorem last_away {T : Tab} {key : Int} (hv : validB T = true) (h0 : 0 ≤ key) (hf : nth T.zs (lastOf T key) = key) : awayOf T (lastOf T key : Nat) = (visN T key (homeN T key) : Int) - 1 := by
  obtain ⟨⟨l1, _⟩, _⟩ := valid_facts hv
  have hb := visN_bounds l1 key (homeN T key)
  have := away_step hv (j := visN T key (homeN T key) - 1) (by omega) hf h0
  unfold lastOf
  rw [this]
  omega
theorem last_free {T : Tab} {key : Int} (hf : nth T.zs (lastOf T key) ≠ key) : nth T.zs (lastOf T key) = -1 ∨ visN T key (homeN T key) = T.zs.length := by
  by_cases h : goN (stopAt T key (homeN T key)) T.zs.length < T.zs.length
  · left
    have h1 := goN_stop h
    have h2 : visN T key (homeN T key) - 1 = goN (stopAt T key (homeN T key)) T.zs.length := by unfold visN; omega
    unfold lastOf at hf ⊢
    rw [h2] at hf ⊢
    simp only [stopAt, Bool.or_eq_true, beq_iff_eq] at h1
    rcases h1 with h1 | h1
    · exact h1
    · exact absurd h1 hf
  · right
    have h1 := goN_le (stopAt T key (homeN T key)) T.zs.length
    unfold visN
    omega
theorem last_cast {T : Tab} (hv : validB T = true) (key : Int) : (homeI T key + (visN T key (homeN T key) : Int) - 1) % (T.zs.length : Int) = (lastOf T key : Int) := by
  obtain ⟨⟨l1, _⟩, _⟩ := valid_facts hv
  have hb := visN_bounds l1 key (homeN T key)
  rw [← homeN_eq hv key, lastOf, stepS, Int.natCast_emod]
  congr 1
  omega

/-- Where a key is found: the steps to it. -/
theorem find_at {T : Tab} {key : Int} {j : Nat} (hj : j < T.zs.length) (hf : ∀ i, i < j → stopAt T key (homeN T key) i = false) (hx : nth T.zs (stepS T (homeN T key) j) = key) (_h0 : 0 ≤ key) :
    visN T key (homeN T key) = j + 1 ∧ lastOf T key = stepS T (homeN T key) j ∧ findI T key = stepS T (homeN T key) j := by
  have h1 := visN_stop hj hf (stop_key hx)
  have h2 : lastOf T key = stepS T (homeN T key) j := by rw [lastOf, h1]; rfl
  refine ⟨h1, h2, ?_⟩
  unfold findI
  rw [h2, if_pos hx]
/-- A key that lies in a table behind no free slot is found. -/
theorem found_iff {T : Tab} {key : Int} (hv : validB T = true) {j : Nat} (hj : j < T.zs.length) (hx : nth T.zs (stepS T (homeN T key) j) = key) (h0 : 0 ≤ key) :
    0 ≤ findI T key ↔ ∀ i, i < j → nth T.zs (stepS T (homeN T key) i) ≠ -1 := by
  obtain ⟨⟨l1, _⟩, _, _, hg⟩ := valid_facts hv
  have hh := homeN_lt hv key
  have hne : ∀ i, i < j → nth T.zs (stepS T (homeN T key) i) ≠ key := fun i hi e => by
    have := hg.inj (stepS_lt l1 _ _) (stepS_lt l1 _ _) (e.trans hx.symm) (by rw [e]; exact h0)
    have := step_inj hh (by omega) hj this
    omega
  constructor
  · intro hf i hi e
    obtain ⟨_, h2⟩ := find_yes hf
    have hb := visN_bounds l1 key (homeN T key)
    have h3 : visN T key (homeN T key) - 1 = j := by
      refine step_inj hh (by omega) hj (hg.inj (stepS_lt l1 _ _) (stepS_lt l1 _ _) ?_ ?_)
      · rw [hx]; exact h2
      · exact (show (0 : Int) ≤ nth T.zs (lastOf T key) by rw [h2]; exact h0)
    exact (stop_no (vis_free (T := T) (key := key) (h := homeN T key) (i := i) (by omega))).1 e
  · intro hf
    obtain ⟨_, _, h3⟩ := find_at hj (fun i hi => stop_is (hf i hi) (hne i hi)) hx h0
    omega

theorem low_get {zs way : List Int} (h : 0 ≤ firstLow zs way) : ∃ j, j < way.length ∧ firstLow zs way = nth way j ∧ nth zs (nth way j).toNat < 0 ∧ ∀ i, i < j → 0 ≤ nth zs (nth way i).toNat := by
  induction way with
  | nil => simp [firstLow] at h
  | cons x way ih =>
    by_cases hx : nth zs x.toNat < 0
    · refine ⟨0, by simp, ?_, by simpa [nth] using hx, fun i hi => by omega⟩
      unfold firstLow
      rw [List.find?_cons_of_pos (by simpa using hx)]
      simp [nth]
    · have e : firstLow zs (x :: way) = firstLow zs way := by
        unfold firstLow
        rw [List.find?_cons_of_neg (by simpa using hx)]
      rw [e] at h ⊢
      obtain ⟨j, h1, h2, h3, h4⟩ := ih h
      refine ⟨j + 1, by simpa using h1, by simpa [nth] using h2, by simpa [nth] using h3, fun i hi => ?_⟩
      cases i with
      | zero => simpa [nth] using hx
      | succ i => simpa [nth] using h4 i (by omega)
theorem low_not {zs way : List Int} (h : firstLow zs way < 0) (hw : ∀ i, i < way.length → 0 ≤ nth way i) : ∀ i, i < way.length → 0 ≤ nth zs (nth way i).toNat := by
  induction way with
  | nil => intro i hi; simp at hi
  | cons x way ih =>
    by_cases hx : nth zs x.toNat < 0
    · have h0 := hw 0 (by simp)
      unfold firstLow at h
      rw [List.find?_cons_of_pos (by simpa using hx)] at h
      simp [nth] at h h0
      omega
    · have e : firstLow zs (x :: way) = firstLow zs way := by
        unfold firstLow
        rw [List.find?_cons_of_neg (by simpa using hx)]
      rw [e] at h
      intro i hi
      cases i with
      | zero => simpa [nth] using hx
      | succ i => simpa [nth] using ih h (fun k hk => by simpa [nth] using hw (k + 1) (by simp; omega)) i (by simpa using hi)

theorem place_asked {T : Tab} {key : Int} (h : 0 ≤ placeI T key) : validB T = true ∧ (0 ≤ key ∧ key ≤ 99) ∧ findI T key < 0 ∧ placeI T key = firstLow T.zs (wayOf T key) := by
  unfold placeI at h ⊢
  split at h
  · rename_i h1
    rw [if_pos h1]
    simp only [Bool.and_eq_true, decide_eq_true_eq] at h1
    exact ⟨h1.1.1, inB_iff.1 h1.1.2, h1.2, rfl⟩
  · omega
/-- A place for a key: the first slot on its way that holds none. -/
theorem place_yes {T : Tab} {key : Int} (h : 0 ≤ placeI T key) : ∃ j, j < visN T key (homeN T key) ∧ placeI T key = stepS T (homeN T key) j ∧ nth T.zs (stepS T (homeN T key) j) < 0 ∧ ∀ i, i < j → 0 ≤ nth T.zs (stepS T (homeN T key) i) := by
  obtain ⟨_, _, _, e⟩ := place_asked h
  rw [e] at h
  obtain ⟨j, h1, h2, h3, h4⟩ := low_get h
  rw [wayOf, wayTo_len] at h1
  rw [wayOf, wayTo_nth h1] at h2 h3
  refine ⟨j, h1, by rw [e]; exact h2, by simpa using h3, fun i hi => ?_⟩
  have := h4 i hi
  rw [wayOf, wayTo_nth (by omega)] at this
  simpa using this
theorem placeI_low {T : Tab} {key : Int} (h : placeI T key < 0) : placeI T key = -1 := by
  unfold placeI at h ⊢
  split
  · rename_i h1
    rw [if_pos h1] at h
    unfold firstLow at h ⊢
    cases hc : List.find? (fun k => decide (nth T.zs k.toNat < 0)) (wayOf T key) with
    | none => rfl
    | some v =>
      rw [hc] at h
      obtain ⟨i, hi, e⟩ := List.getElem_of_mem (List.mem_of_find?_eq_some hc)
      rw [wayOf, wayTo_len] at hi
      have := wayTo_nth (T := T) (h := homeN T key) hi
      rw [nth] at this
      have e2 : (wayOf T key)[i]? = some v := by rw [List.getElem?_eq_getElem (by rw [wayOf, wayTo_len]; exact hi), e]
      rw [wayOf] at e2
      rw [e2] at this
      simp at this h
      omega
  · rfl
/-- No place for a key that is not there: no slot is free or a tomb. -/
theorem place_no {T : Tab} {key : Int} (hv : validB T = true) (hk : 0 ≤ key ∧ key ≤ 99) (hf : findI T key < 0) (h : placeI T key < 0) : ∀ i, i < T.zs.length → 0 ≤ nth T.zs i := by
  have e : placeI T key = firstLow T.zs (wayOf T key) := by
    unfold placeI
    rw [if_pos (by simp [hv, inB, hk, hf])]
  rw [e] at h
  have hh := homeN_lt hv key
  have h1 := low_not h (fun i hi => by
    rw [wayOf, wayTo_len] at hi
    rw [wayOf, wayTo_nth hi]; omega)
  have h2 : ∀ i, i < visN T key (homeN T key) → 0 ≤ nth T.zs (stepS T (homeN T key) i) := fun i hi => by
    have := h1 i (by rw [wayOf, wayTo_len]; exact hi)
    rw [wayOf, wayTo_nth hi] at this
    simpa using this
  obtain ⟨⟨l1, _⟩, _⟩ := valid_facts hv
  have hb := visN_bounds l1 key (homeN T key)
  have h3 : visN T key (homeN T key) = T.zs.length := by
    rcases last_free (find_no hf).2 with h3 | h3
    · have := h2 (visN T key (homeN T key) - 1) (by omega)
      unfold lastOf at h3
      omega
    · exact h3
  intro i hi
  obtain ⟨e1, e2⟩ := step_away hh hi
  have := h2 _ (by rw [h3]; exact e2)
  rwa [e1] at this

end Go.Proofs.YtpncpeokdcolpaaGreatDoor

namespace Go.Proofs.YtpncpeokdcolpaaGreatDoor

theorem nth_set {zs : List Int} {k : Nat} (hk : k < zs.length) (x : Int) (i : Nat) : nth (zs.set k x) i = if i = k then x else nth zs i := by
  unfold nth
  rw [List.getElem?_set]
  by_cases h : k = i
  · subst h; simp [hk]
  · simp [h, Ne.symm h]

/-- A table is sound if all its keys are found. -/
theorem sound_all {T : Tab} : soundB T = true ↔ validB T = true ∧ ∀ i, i < T.zs.length → 0 ≤ nth T.zs i → 0 ≤ findI T (nth T.zs i) := by
  unfold soundB
  cases hv : validB T
  · simp
  · simp only [Bool.true_and, decide_eq_true_eq, true_and]
    rw [lostOf, if_pos hv, List.filter_eq_nil_iff]
    constructor
    · intro h i hi h0
      have h1 := h (nth T.zs i) (sortU_mem.2 ⟨⟨h0, (valid_slot hv hi).2⟩, by rw [nth, List.getElem?_eq_getElem hi]; exact List.getElem_mem hi⟩)
      simpa using h1
    · intro h x hx
      obtain ⟨⟨h0, _⟩, hm⟩ := sortU_mem.1 hx
      obtain ⟨i, hi, e⟩ := List.getElem_of_mem hm
      have e2 : nth T.zs i = x := by rw [nth, List.getElem?_eq_getElem hi, e]; rfl
      have := h i hi (by rw [e2]; exact h0)
      rw [e2] at this
      simpa using this

/-- A table with a key in a slot. -/
def putAt (T : Tab) (k : Nat) (x : Int) : Tab := ⟨T.t, T.p, T.zs.set k x⟩
theorem putAt_len (T : Tab) (k : Nat) (x : Int) : (putAt T k x).zs.length = T.zs.length := by simp [putAt]
theorem putAt_home (T : Tab) (k : Nat) (x y : Int) : homeN (putAt T k x) y = homeN T y := by simp [homeN, homeI, putAt]
theorem putAt_step (T : Tab) (k : Nat) (x : Int) (h i : Nat) : stepS (putAt T k x) h i = stepS T h i := by simp [stepS, putAt]

def putOk (T : Tab) (key : Int) : Bool := decide (0 ≤ placeI T key) && soundB T
def putT (T : Tab) (key : Int) : Tab := if putOk T key then putAt T (placeI T key).toNat key else ⟨0, 0, []⟩
def putVis (T : Tab) (key : Int) : Int := if putOk T key then visOf T key else -1

theorem putOk_parts {T : Tab} {key : Int} (h : putOk T key = true) : 0 ≤ placeI T key ∧ soundB T = true := by simpa [putOk] using h
theorem putPlace_lt {T : Tab} {key : Int} (h : 0 ≤ placeI T key) : (placeI T key).toNat < T.zs.length := by
  obtain ⟨hv, _⟩ := place_asked h
  obtain ⟨⟨l1, _⟩, _⟩ := valid_facts hv
  obtain ⟨j, _, e, _⟩ := place_yes h
  have := stepS_lt (T := T) l1 (homeN T key) j
  rw [e]; omega

structure PutSays (T : Tab) (key : Int) (k : Nat) : Prop where
  val : validB T = true
  lt : k < T.zs.length
  low : nth T.zs k < 0
  key0 : 0 ≤ key ∧ key ≤ 99
  val2 : validB (putAt T k key) = true
  find2 : findI (putAt T k key) key = k
  vis2 : visN (putAt T k key) key (homeN T key) ≤ visN T key (homeN T key)
  sound2 : soundB (putAt T k key) = true

theorem put_says {T : Tab} {key : Int} (h : putOk T key = true) : PutSays T key (placeI T key).toNat := by
  obtain ⟨hp, hs⟩ := putOk_parts h
  have hlt := putPlace_lt hp
  obtain ⟨hv, hk, hf, _⟩ := place_asked hp
  obtain ⟨j, hj, e, h1, h2⟩ := place_yes hp
  obtain ⟨⟨l1, l2⟩, ht, hpp, hg⟩ := valid_facts hv
  have hb := visN_bounds l1 key (homeN T key)
  have ek : (placeI T key).toNat = stepS T (homeN T key) j := by rw [e]; rfl
  rw [ek] at hlt ⊢
  have hno : ∀ i, i < T.zs.length → nth T.zs i ≠ key := fun i hi e => by
    have := (sound_all.1 hs).2 i hi (by rw [e]; exact hk.1)
    rw [e] at this
    omega
  generalize hkk : stepS T (homeN T key) j = k at hlt h1 ek ⊢
  have hnth := nth_set hlt key
  have hv2 : validB (putAt T k key) = true := by
    refine validB_iff.2 ⟨by simpa [putAt] using (validB_iff.1 hv).1, ?_⟩
    rw [putAt_len]
    intro i hi
    show inB (nth (T.zs.set k key) i) (-2) 99 = true ∧ (0 ≤ nth (T.zs.set k key) i → ∀ j, j < i → nth (T.zs.set k key) j ≠ nth (T.zs.set k key) i)
    rw [hnth]
    refine ⟨?_, fun h0 m hm => ?_⟩
    · split
      · exact inB_true ⟨by omega, hk.2⟩
      · exact (hg i hi).1
    · rw [hnth]
      split <;> split
      · omega
      · exact (hno i hi).symm
      · exact hno m (by omega)
      · rename_i hm2 hi2
        rw [if_neg hi2] at h0
        exact (hg i hi).2 h0 m hm
  have hst : ∀ i, i < j → nth T.zs (stepS T (homeN T key) i) = nth (putAt T k key).zs (stepS T (homeN T key) i) := fun i hi => by
    show _ = nth (T.zs.set k key) _
    rw [hnth, if_neg]
    intro e
    have := h2 i hi
    rw [e] at this
    omega
  have F := find_at (T := putAt T k key) (key := key) (j := j) (by rw [putAt_len]; omega) (fun i hi => by
    rw [putAt_home]
    refine stop_is ?_ ?_
    · rw [putAt_step, ← hst i hi]
      have := h2 i hi
      omega
    · rw [putAt_step, ← hst i hi]
      exact hno _ (stepS_lt l1 _ _)) (by
    rw [putAt_home, putAt_step, hkk]
    show nth (T.zs.set k key) k = key
    rw [hnth, if_pos rfl]) hk.1
  rw [putAt_home, putAt_step, hkk] at F
  refine ⟨hv, hlt, h1, hk, hv2, F.2.2, by rw [F.1]; omega, sound_all.2 ⟨hv2, fun i hi h0 => ?_⟩⟩
  rw [putAt_len] at hi
  by_cases hik : i = k
  · subst hik
    have e2 : nth (putAt T i key).zs i = key := by
      show nth (T.zs.set i key) i = key
      rw [hnth, if_pos rfl]
    rw [e2, F.2.2]
    omega
  · have e2 : nth (putAt T k key).zs i = nth T.zs i := by
      show nth (T.zs.set k key) i = _
      rw [hnth, if_neg hik]
    rw [e2] at h0 ⊢
    have hf0 := (sound_all.1 hs).2 i hi h0
    generalize hy : nth T.zs i = y at h0 hf0 e2 ⊢
    have hh := homeN_lt hv y
    obtain ⟨a1, a2⟩ := step_away hh hi
    rw [found_iff hv a2 (by rw [a1]; exact hy) h0] at hf0
    rw [found_iff (T := putAt T k key) hv2 (j := (i + T.zs.length - homeN T y) % T.zs.length) (by rw [putAt_len]; exact a2) (by rw [putAt_home, putAt_step, a1]; exact e2) h0]
    intro m hm
    rw [putAt_home, putAt_step]
    show nth (T.zs.set k key) _ ≠ -1
    rw [hnth]
    split
    · omega
    · exact hf0 m hm

/-- All slots are keys, tombs or free. -/
theorem cnt_all (zs : List Int) : cnt keyP zs zs.length + cnt tombP zs zs.length + cnt freeP zs zs.length = zs.length := by
  unfold cnt
  rw [List.take_length]
  induction zs with
  | nil => rfl
  | cons x zs ih =>
    simp only [List.countP_cons, List.length_cons]
    have : (if keyP x = true then 1 else 0) + (if tombP x = true then 1 else 0) + (if freeP x = true then 1 else 0) = 1 := by
      unfold keyP tombP freeP
      by_cases h1 : x = -1
      · subst h1; rfl
      · by_cases h2 : x = -2
        · subst h2; rfl
        · simp [h1, h2]
    omega
theorem cnt_none {p : Int → Bool} {zs : List Int} (h : ∀ i, i < zs.length → p (nth zs i) = false) : cnt p zs zs.length = 0 := by
  unfold cnt
  rw [List.take_length, List.countP_eq_zero]
  intro x hx
  obtain ⟨i, hi, e⟩ := List.getElem_of_mem hx
  have := h i hi
  rw [nth, List.getElem?_eq_getElem hi, e] at this
  simpa using this
/-- Where no slot is free or a tomb, all are keys. -/
theorem counts_full {T : Tab} (hv : validB T = true) (h : ∀ i, i < T.zs.length → 0 ≤ nth T.zs i) : countT T = 0 ∧ countF T = 0 ∧ countK T = T.zs.length := by
  have h1 : cnt tombP T.zs T.zs.length = 0 := cnt_none fun i hi => by
    have := h i hi
    simp [tombP]; omega
  have h2 : cnt freeP T.zs T.zs.length = 0 := cnt_none fun i hi => by
    have := h i hi
    simp [freeP]; omega
  have h3 := cnt_all T.zs
  simp only [countT, countF, countK, hv, if_true]
  omega

def loadOf (T : Tab) : Int := if validB T then 100 * (countK T + countT T) / T.zs.length else -1
/-- What a share of the slots says of their numbers. -/
theorem load_says {T : Tab} (hv : validB T = true) : 0 ≤ loadOf T ∧ loadOf T ≤ 100 ∧ (loadOf T = 100 ↔ countF T = 0) ∧ loadOf T * T.zs.length ≤ 100 * (countK T + countT T) ∧ 100 * (countK T + countT T) < (loadOf T + 1) * T.zs.length := by
  obtain ⟨⟨l1, l2⟩, _⟩ := valid_facts hv
  have h3 := cnt_all T.zs
  unfold loadOf
  simp only [countT, countF, countK, hv, if_true]
  generalize cnt keyP T.zs T.zs.length = a at h3 ⊢
  generalize cnt tombP T.zs T.zs.length = b at h3 ⊢
  generalize cnt freeP T.zs T.zs.length = c at h3 ⊢
  generalize T.zs.length = n at l1 l2 h3 ⊢
  have e1 := Int.emod_add_mul_ediv (100 * ((a : Int) + b)) n
  have e2 := Int.emod_nonneg (100 * ((a : Int) + b)) (b := (n : Int)) (by omega)
  have e3 := Int.emod_lt_of_pos (100 * ((a : Int) + b)) (b := (n : Int)) (by omega)
  generalize (100 * ((a : Int) + b)) % (n : Int) = r at e1 e2 e3
  generalize 100 * ((a : Int) + b) / (n : Int) = q at e1 ⊢
  rw [Int.mul_comm] at e1
  have hq0 : 0 ≤ q := by
    refine Int.not_lt.1 fun hq => ?_
    have := Int.mul_le_mul_of_nonneg_right (a := q) (b := -1) (c := (n : Int)) (by omega) (by omega)
    omega
  have hq1 : q ≤ 100 := by
    refine Int.not_lt.1 fun hq => ?_
    have := Int.mul_le_mul_of_nonneg_right (a := 101) (b := q) (c := (n : Int)) (by omega) (by omega)
    omega
  refine ⟨hq0, hq1, ⟨fun h => ?_, fun h => ?_⟩, by omega, by rw [Int.add_mul]; omega⟩
  · subst h; omega
  · refine Int.le_antisymm hq1 (Int.not_lt.1 fun hq => ?_)
    have := Int.mul_le_mul_of_nonneg_right (a := q) (b := 99) (c := (n : Int)) (by omega) (by omega)
    omega

end Go.Proofs.YtpncpeokdcolpaaGreatDoor

namespace Go.Proofs.YtpncpeokdcolpaaGreatDoor

theorem nth_map {f : Int → Int} {zs : List Int} {i : Nat} (hi : i < zs.length) : nth (zs.map f) i = f (nth zs i) := by
  simp [nth, hi]
theorem nth_ext {xs ys : List Int} (hl : xs.length = ys.length) (h : ∀ i, i < xs.length → nth xs i = nth ys i) : xs = ys := by
  refine List.ext_getElem hl fun i h1 h2 => ?_
  have := h i h1
  simpa [nth, h1, h2] using this
theorem mem_nth {zs : List Int} {x : Int} (h : x ∈ zs) : ∃ i, i < zs.length ∧ nth zs i = x := by
  obtain ⟨i, hi, e⟩ := List.getElem_of_mem h
  exact ⟨i, hi, by rw [nth, List.getElem?_eq_getElem hi, e]; rfl⟩
theorem nth_mem {zs : List Int} {i : Nat} (hi : i < zs.length) : nth zs i ∈ zs := by
  rw [nth, List.getElem?_eq_getElem hi]; exact List.getElem_mem hi

/-- A key of a sound table is found where it is. -/
theorem sound_find {T : Tab} (hs : soundB T = true) {i : Nat} (hi : i < T.zs.length) (h0 : 0 ≤ nth T.zs i) : findI T (nth T.zs i) = i := by
  obtain ⟨hv, hf⟩ := sound_all.1 hs
  obtain ⟨⟨l1, _⟩, _, _, hg⟩ := valid_facts hv
  obtain ⟨e1, e2⟩ := find_yes (hf i hi h0)
  rw [e1, hg.inj (lastOf_lt l1 _) hi e2 (by rw [e2]; exact h0)]
/-- A number that no slot holds is not found. -/
theorem none_find {T : Tab} (hv : validB T = true) {y : Int} (h : ∀ i, i < T.zs.length → nth T.zs i ≠ y) : findI T y = -1 := by
  obtain ⟨⟨l1, _⟩, _⟩ := valid_facts hv
  unfold findI
  rw [if_neg (h _ (lastOf_lt l1 _))]

/-- One table has the keys of another one where they are, and perhaps fewer. -/
structure Less (T U : Tab) : Prop where
  t : U.t = T.t
  p : U.p = T.p
  len : U.zs.length = T.zs.length
  at' : ∀ i, i < T.zs.length → nth U.zs i = nth T.zs i ∨ nth U.zs i = -2 ∨ nth U.zs i = -1

theorem Less.home {T U : Tab} (h : Less T U) (y : Int) : homeN U y = homeN T y := by simp [homeN, homeI, h.t, h.p, h.len]
theorem Less.step {T U : Tab} (h : Less T U) (a i : Nat) : stepS U a i = stepS T a i := by simp [stepS, h.len]
theorem Less.key {T U : Tab} (h : Less T U) {i : Nat} (hi : i < T.zs.length) (h0 : 0 ≤ nth U.zs i) : nth U.zs i = nth T.zs i := by
  rcases h.at' i hi with e | e | e
  · exact e
  · omega
  · omega
theorem Less.valid {T U : Tab} (h : Less T U) (hv : validB T = true) : validB U = true := by
  obtain ⟨h1, h2⟩ := validB_iff.1 hv
  refine validB_iff.2 ⟨by rw [h.len, h.t, h.p]; exact h1, ?_⟩
  rw [h.len]
  intro i hi
  obtain ⟨a, b⟩ := h2 i hi
  refine ⟨?_, fun h0 j hj e => ?_⟩
  · rcases h.at' i hi with e | e | e <;> rw [e]
    · exact a
    · rfl
    · rfl
  · have k1 := h.key hi h0
    have k2 := h.key (show j < T.zs.length by omega) (by rw [e]; exact h0)
    exact b (by rw [← k1]; exact h0) j hj (by rw [← k1, ← k2]; exact e)
/-- What remains is found if no slot ahead of it becomes free. -/
theorem Less.found {T U : Tab} (h : Less T U) (hs : soundB T = true) {i : Nat} (hi : i < T.zs.length) (h0 : 0 ≤ nth U.zs i)
    (hf : ∀ m, m < (i + T.zs.length - homeN T (nth T.zs i)) % T.zs.length → nth T.zs (stepS T (homeN T (nth T.zs i)) m) ≠ -1 → nth U.zs (stepS T (homeN T (nth T.zs i)) m) ≠ -1) : 0 ≤ findI U (nth U.zs i) := by
  obtain ⟨hv, hF⟩ := sound_all.1 hs
  have hv2 := h.valid hv
  have e2 := h.key hi h0
  rw [e2] at h0 ⊢
  have hf0 := hF i hi h0
  generalize hy : nth T.zs i = y at *
  have hh := homeN_lt hv y
  obtain ⟨a1, a2⟩ := step_away hh hi
  rw [found_iff hv a2 (by rw [a1]; exact hy) h0] at hf0
  rw [found_iff (T := U) hv2 (j := (i + T.zs.length - homeN T y) % T.zs.length) (by rw [h.len]; exact a2) (by rw [h.home, h.step, a1]; exact e2) h0]
  intro m hm
  rw [h.home, h.step]
  exact hf m hm (hf0 m hm)
theorem Less.sound {T U : Tab} (h : Less T U) (hs : soundB T = true) (hf : ∀ i, i < T.zs.length → nth U.zs i = nth T.zs i ∨ nth U.zs i = -2) : soundB U = true := by
  obtain ⟨hv, _⟩ := sound_all.1 hs
  obtain ⟨⟨l1, _⟩, _⟩ := valid_facts hv
  refine sound_all.2 ⟨h.valid hv, fun i hi h0 => ?_⟩
  rw [h.len] at hi
  refine h.found hs hi h0 fun m _ h1 => ?_
  rcases hf _ (stepS_lt l1 _ _) with e | e
  · rw [e]; exact h1
  · omega

/-- Some keys become tombs. -/
def dropL (ks zs : List Int) : List Int := zs.map fun z => if z ∈ ks then -2 else z
def dropAt (T : Tab) (ks : List Int) : Tab := ⟨T.t, T.p, dropL ks T.zs⟩
theorem dropL_len (ks zs : List Int) : (dropL ks zs).length = zs.length := by simp [dropL]
theorem dropL_nth {ks zs : List Int} {i : Nat} (hi : i < zs.length) : nth (dropL ks zs) i = if nth zs i ∈ ks then -2 else nth zs i := nth_map hi
theorem dropL_nil (zs : List Int) : dropL [] zs = zs := by simp [dropL]
theorem drop_less (T : Tab) (ks : List Int) : Less T (dropAt T ks) := ⟨rfl, rfl, dropL_len _ _, fun i hi => by
  show nth (dropL ks T.zs) i = _ ∨ nth (dropL ks T.zs) i = _ ∨ _
  rw [dropL_nth hi]
  split <;> simp⟩
theorem drop_sound {T : Tab} (hs : soundB T = true) (ks : List Int) : soundB (dropAt T ks) = true := (drop_less T ks).sound hs fun i hi => by
  show nth (dropL ks T.zs) i = _ ∨ nth (dropL ks T.zs) i = _
  rw [dropL_nth hi]
  split <;> simp
/-- A key more. -/
theorem dropL_snoc {ks zs : List Int} (hg : Good zs zs.length) {k : Nat} {x : Int} (h0 : 0 ≤ x) (hk : k < zs.length) (hx : nth (dropL ks zs) k = x) : dropL (ks ++ [x]) zs = (dropL ks zs).set k (-2) := by
  refine nth_ext (by simp [dropL]) fun i hi => ?_
  rw [dropL_len] at hi
  rw [dropL_nth hi, nth_set (by rw [dropL_len]; exact hk), dropL_nth hi]
  rw [dropL_nth hk] at hx
  split at hx
  · omega
  rename_i hkn
  by_cases hik : i = k
  · subst hik
    simp [hx]
  · rw [if_neg hik]
    have : nth zs i ≠ x := fun e => hik (hg.inj hi hk (e.trans hx.symm) (by rw [e]; exact h0))
    simp only [List.mem_append, List.mem_singleton, this, or_false]
theorem dropL_keep {ks zs : List Int} {x : Int} (h : ∀ i, i < zs.length → nth (dropL ks zs) i ≠ x) : dropL (ks ++ [x]) zs = dropL ks zs := by
  refine nth_ext (by simp [dropL]) fun i hi => ?_
  rw [dropL_len] at hi
  have hn := h i hi
  rw [dropL_nth hi] at hn ⊢
  rw [dropL_nth hi]
  by_cases hm : nth zs i ∈ ks
  · simp [hm]
  · rw [if_neg hm] at hn ⊢
    simp [hm, hn]
theorem drops_step {T : Tab} (hs : soundB T = true) (ks : List Int) {x : Int} (h0 : 0 ≤ x) :
    (∃ k : Nat, k < T.zs.length ∧ findI (dropAt T ks) x = k ∧ dropL (ks ++ [x]) T.zs = (dropL ks T.zs).set k (-2)) ∨ (findI (dropAt T ks) x = -1 ∧ dropL (ks ++ [x]) T.zs = dropL ks T.zs) := by
  obtain ⟨hv, _⟩ := sound_all.1 hs
  obtain ⟨⟨l1, _⟩, _, _, hg⟩ := valid_facts hv
  have hs2 := drop_sound hs ks
  obtain ⟨hv2, _⟩ := sound_all.1 hs2
  by_cases h : ∃ k, k < T.zs.length ∧ nth (dropL ks T.zs) k = x
  · obtain ⟨k, hk, e⟩ := h
    have := sound_find hs2 (i := k) (by simpa [dropAt, dropL] using hk) (by show 0 ≤ nth (dropL ks T.zs) k; omega)
    have e2 : nth (dropAt T ks).zs k = x := e
    rw [e2] at this
    exact .inl ⟨k, hk, this, dropL_snoc hg h0 hk e⟩
  · have h' : ∀ i, i < T.zs.length → nth (dropL ks T.zs) i ≠ x := fun i hi e => h ⟨i, hi, e⟩
    exact .inr ⟨none_find hv2 fun i hi => h' i (by simpa [dropAt, dropL] using hi), dropL_keep h'⟩

/-- DropKey and DropAll of the document. -/
def dropOk (T : Tab) (key : Int) : Bool := decide (0 ≤ findOf T key) && soundB T
def dropT (T : Tab) (key : Int) : Tab := if dropOk T key then dropAt T [key] else ⟨0, 0, []⟩
def keysB (ks : List Int) : Bool := decide (ks.length ≤ 100) && ks.all fun x => inB x 0 99
def dropsOk (T : Tab) (ks : List Int) : Bool := soundB T && keysB ks
def dropsT (T : Tab) (ks : List Int) : Tab := if dropsOk T ks then dropAt T ks else ⟨0, 0, []⟩

theorem dropT_no {T : Tab} {key : Int} (h : dropOk T key = false) : dropT T key = ⟨0, 0, []⟩ := by simp [dropT, h]
theorem dropT_yes {T : Tab} {key : Int} (h : dropOk T key = true) : dropT T key = dropAt T [key] := by simp [dropT, h]
theorem dropsT_no {T : Tab} {ks : List Int} (h : dropsOk T ks = false) : dropsT T ks = ⟨0, 0, []⟩ := by simp [dropsT, h]
theorem dropsT_yes {T : Tab} {ks : List Int} (h : dropsOk T ks = true) : dropsT T ks = dropAt T ks := by simp [dropsT, h]

structure DropSays (T : Tab) (key : Int) (k : Nat) : Prop where
  val : validB T = true
  snd : soundB T = true
  key0 : 0 ≤ key ∧ key ≤ 99
  lt : k < T.zs.length
  find : findOf T key = k ∧ findI T key = k
  here : nth T.zs k = key
  eq : dropT T key = putAt T k (-2) ∧ dropT T key = dropAt T [key]
  snd2 : soundB (putAt T k (-2)) = true
  val2 : validB (putAt T k (-2)) = true
  gone : findI (putAt T k (-2)) key = -1
  same : ∀ y, y ≠ key → 0 ≤ y → findI (putAt T k (-2)) y = findI T y

theorem drop_says {T : Tab} {key : Int} (h : dropOk T key = true) : ∃ k : Nat, DropSays T key k := by
  have h' := h
  simp only [dropOk, Bool.and_eq_true, decide_eq_true_eq] at h'
  obtain ⟨hf, hs⟩ := h'
  have hfo := hf
  unfold findOf at hf
  split at hf
  · rename_i hvk
    simp only [Bool.and_eq_true] at hvk
    obtain ⟨hv, hk⟩ := hvk
    have hk := inB_iff.1 hk
    obtain ⟨⟨l1, _⟩, _, _, hg⟩ := valid_facts hv
    obtain ⟨e1, e2⟩ := find_yes hf
    have hlt := lastOf_lt (T := T) l1 key
    have hset : dropAt T [key] = putAt T (lastOf T key) (-2) := by
      have := dropL_snoc (ks := []) hg hk.1 hlt (by rw [dropL_nil]; exact e2)
      rw [dropL_nil, List.nil_append] at this
      simp only [dropAt, putAt, this]
    have hs2 : soundB (putAt T (lastOf T key) (-2)) = true := by rw [← hset]; exact drop_sound hs [key]
    have hv2 := (sound_all.1 hs2).1
    refine ⟨lastOf T key, hv, hs, hk, hlt, ⟨by rw [findOf, if_pos (by simp [hv, inB, hk]), e1], e1⟩, e2, ⟨(dropT_yes h).trans hset, dropT_yes h⟩, hs2, hv2, ?_, ?_⟩
    · refine none_find hv2 fun i hi => ?_
      rw [putAt_len] at hi
      show nth (T.zs.set _ _) i ≠ _
      rw [nth_set hlt]
      split
      · omega
      · rename_i hne
        exact fun e => hne (hg.inj hi hlt (e.trans e2.symm) (by rw [e]; exact hk.1))
    · intro y hy hy0
      have hnth : ∀ i, nth (putAt T (lastOf T key) (-2)).zs i = if i = lastOf T key then -2 else nth T.zs i := fun i => nth_set hlt _ i
      by_cases hin : ∃ i, i < T.zs.length ∧ nth T.zs i = y
      · obtain ⟨i, hi, rfl⟩ := hin
        have hne : i ≠ lastOf T key := fun e => hy (by rw [e]; exact e2)
        have a := sound_find hs hi hy0
        have b := sound_find hs2 (i := i) (by rw [putAt_len]; exact hi) (by rw [hnth, if_neg hne]; exact hy0)
        rw [hnth, if_neg hne] at b
        rw [a, b]
      · rw [none_find hv fun i hi e => hin ⟨i, hi, e⟩, none_find hv2 fun i hi => ?_]
        rw [putAt_len] at hi
        rw [hnth]
        split
        · omega
        · exact fun e => hin ⟨i, hi, e⟩
  · omega

end Go.Proofs.YtpncpeokdcolpaaGreatDoor

namespace Go.Proofs.YtpncpeokdcolpaaGreatDoor

/-- A row whose first k slots are changed. -/
def mapTo (f : Nat → Int → Int) (zs : List Int) (k : Nat) : List Int := (List.range zs.length).map fun i => if i < k then f i (nth zs i) else nth zs i
theorem mapTo_len (f : Nat → Int → Int) (zs : List Int) (k : Nat) : (mapTo f zs k).length = zs.length := by simp [mapTo]
theorem mapTo_nth {f : Nat → Int → Int} {zs : List Int} {k i : Nat} (hi : i < zs.length) : nth (mapTo f zs k) i = if i < k then f i (nth zs i) else nth zs i := by
  have : (mapTo f zs k)[i]? = some (if i < k then f i (nth zs i) else nth zs i) := by
    unfold mapTo
    rw [List.getElem?_map, List.getElem?_range hi]
    rfl
  rw [nth, this]
  rfl
theorem mapTo_zero (f : Nat → Int → Int) (zs : List Int) : mapTo f zs 0 = zs := nth_ext (mapTo_len ..) fun i hi => by
  rw [mapTo_len] at hi
  rw [mapTo_nth hi, if_neg (by omega)]
theorem mapTo_at {f : Nat → Int → Int} {zs : List Int} {k : Nat} (hk : k < zs.length) : nth (mapTo f zs k) k = nth zs k := by
  rw [mapTo_nth hk, if_neg (by omega)]
theorem mapTo_set {f : Nat → Int → Int} {zs : List Int} {k : Nat} (hk : k < zs.length) : (mapTo f zs k).set k (f k (nth zs k)) = mapTo f zs (k + 1) := nth_ext (by simp [mapTo]) fun i hi => by
  simp only [List.length_set, mapTo_len] at hi
  rw [nth_set (by rw [mapTo_len]; exact hk), mapTo_nth hi, mapTo_nth hi]
  by_cases h : i = k
  · subst h; simp
  · by_cases h2 : i < k
    · simp [h, h2, show i < k + 1 by omega]
    · simp [h, h2, show ¬ i < k + 1 by omega]
theorem mapTo_keep {f : Nat → Int → Int} {zs : List Int} {k : Nat} (hk : k < zs.length) (h : f k (nth zs k) = nth zs k) : mapTo f zs k = mapTo f zs (k + 1) := nth_ext (by simp [mapTo]) fun i hi => by
  rw [mapTo_len] at hi
  rw [mapTo_nth hi, mapTo_nth hi]
  by_cases h1 : i = k
  · subst h1; simp [h]
  · by_cases h2 : i < k
    · simp [h2, show i < k + 1 by omega]
    · simp [h2, show ¬ i < k + 1 by omega]
theorem mapTo_drop (ks zs : List Int) : mapTo (fun _ z => if z ∈ ks then -2 else z) zs zs.length = dropL ks zs := nth_ext (by simp [mapTo, dropL]) fun i hi => by
  rw [mapTo_len] at hi
  rw [mapTo_nth hi, if_pos hi, dropL_nth hi]

end Go.Proofs.YtpncpeokdcolpaaGreatDoor

namespace Go.Proofs.YtpncpeokdcolpaaGreatDoor

theorem cnt_set {p : Int → Bool} {zs : List Int} {k : Nat} {x : Int} (hk : k < zs.length) (h1 : p (nth zs k) = p x) : cnt p (zs.set k x) (zs.set k x).length = cnt p zs zs.length := by
  unfold cnt
  rw [List.take_length, List.take_length, List.countP_set hk]
  rw [nth, List.getElem?_eq_getElem hk] at h1
  have h1 : p zs[k] = p x := h1
  rw [h1]
  split
  · have : 0 < zs.countP p := List.countP_pos_iff.2 ⟨zs[k], List.getElem_mem hk, by rw [h1]; assumption⟩
    omega
  · omega

/-- Of a table T, its key and the table U without it. -/
structure DropFacts (T : Tab) (key : Int) (U : Tab) : Prop where
  len : U.zs.length = T.zs.length
  n1 : 1 ≤ T.zs.length
  n2 : T.zs.length ≤ 16
  val : validB T = true
  key0 : 0 ≤ key ∧ key ≤ 99
  gone : findOf U key = -1
  same : ∀ y, y ≠ key → 0 ≤ y → y ≤ 99 → (∃ i, i < T.zs.length ∧ nth T.zs i = y) → 0 ≤ findOf U y ∧ findOf T y = findOf U y
  snd : soundB U = true
  put : putOk U key = true
  snd2 : soundB (putT U key) = true
  load : loadOf U = loadOf T
theorem drop_facts {T : Tab} {key : Int} (h : dropOk T key = true) : DropFacts T key (dropT T key) := by
  obtain ⟨k, D⟩ := drop_says h
  rw [D.eq.1]
  obtain ⟨⟨l1, l2⟩, _⟩ := valid_facts D.val
  have hk : inB key 0 99 = true := inB_true D.key0
  have hnth : nth (putAt T k (-2)).zs k = -2 := by
    show nth (T.zs.set k (-2)) k = -2
    rw [nth_set D.lt, if_pos rfl]
  have hput : putOk (putAt T k (-2)) key = true := by
    simp only [putOk, D.snd2, Bool.and_true, decide_eq_true_eq]
    refine Int.not_lt.1 fun hlt => ?_
    have := place_no D.val2 D.key0 (by rw [D.gone]; omega) hlt k (by rw [putAt_len]; exact D.lt)
    rw [hnth] at this
    omega
  refine ⟨putAt_len _ _ _, l1, l2, D.val, D.key0, ?_, fun y hy h0 h9 hin => ?_, D.snd2, hput, ?_, ?_⟩
  · rw [findOf, if_pos (by rw [D.val2, hk]; rfl), D.gone]
  · obtain ⟨i, hi, e⟩ := hin
    have hyB : inB y 0 99 = true := inB_true ⟨h0, h9⟩
    have h1 := sound_find D.snd hi (by rw [e]; exact h0)
    rw [e] at h1
    have h2 := D.same y hy h0
    rw [findOf, if_pos (by rw [D.val2, hyB]; rfl), findOf, if_pos (by rw [D.val, hyB]; rfl), h2, h1]
    exact ⟨by omega, rfl⟩
  · have := (put_says hput).sound2
    rw [putT, if_pos hput]
    exact this
  · have e1 : cnt freeP (T.zs.set k (-2)) (T.zs.set k (-2)).length = cnt freeP T.zs T.zs.length := cnt_set D.lt (by
      have := D.key0
      rw [D.here]
      have h1 : freeP key = false := by simp [freeP]; omega
      rw [h1]; rfl)
    have e2 := cnt_all T.zs
    have e3 := cnt_all (T.zs.set k (-2))
    have e4 : (T.zs.set k (-2)).length = T.zs.length := by simp
    unfold loadOf countK countT
    rw [D.val, D.val2]
    simp only [if_true, putAt]
    rw [e1] at e3
    rw [e4] at e3 ⊢
    congr 2
    omega

end Go.Proofs.YtpncpeokdcolpaaGreatDoor

namespace Go.Proofs.YtpncpeokdcolpaaGreatDoor

def keysLL (zs : List Int) : List Int := zs.filter fun x => inB x 0 99
/-- As many free slots. -/
def freeT (T : Tab) : Tab := ⟨T.t, T.p, List.replicate T.zs.length (-1)⟩
/-- Some keys put one behind the other. -/
def putsT (T : Tab) (ps : List Int) : Tab := ps.foldl putT (freeT T)
theorem putsT_snoc (T : Tab) (ps : List Int) (x : Int) : putsT T (ps ++ [x]) = putT (putsT T ps) x := by simp [putsT]
def cleanT (T : Tab) : Tab := if soundB T then putsT T (keysLL T.zs) else ⟨0, 0, []⟩

structure CleanInv (T : Tab) (ps : List Int) (C : Tab) : Prop where
  t : C.t = T.t
  p : C.p = T.p
  len : C.zs.length = T.zs.length
  snd : soundB C = true
  keys : ∀ i, i < T.zs.length → 0 ≤ nth C.zs i → nth C.zs i ∈ ps
  cnt : cnt keyP C.zs C.zs.length = ps.length
  tomb : ∀ i, i < T.zs.length → nth C.zs i ≠ -2

theorem nth_rep {n i : Nat} (hi : i < n) : nth (List.replicate n (-1)) i = -1 := by simp [nth, hi]
theorem clean_nil {T : Tab} (hv : validB T = true) : CleanInv T [] (freeT T) := by
  have hl : (freeT T).zs.length = T.zs.length := by simp [freeT]
  have hn : ∀ i, i < T.zs.length → nth (freeT T).zs i = -1 := fun i hi => nth_rep hi
  refine ⟨rfl, rfl, hl, sound_all.2 ⟨validB_iff.2 ⟨by rw [hl]; exact (validB_iff.1 hv).1, fun i hi => ?_⟩, fun i hi h0 => ?_⟩, fun i hi h0 => ?_, ?_, fun i hi => by rw [hn i hi]; omega⟩
  · rw [hl] at hi
    rw [hn i hi]
    exact ⟨rfl, fun h => by omega⟩
  · rw [hl] at hi
    rw [hn i hi] at h0
    omega
  · rw [hn i hi] at h0
    omega
  · exact cnt_none fun i hi => by
      rw [hl] at hi
      rw [hn i hi]
      rfl

theorem cnt_more {p : Int → Bool} {zs : List Int} {k : Nat} {x : Int} (hk : k < zs.length) (h1 : p (nth zs k) = false) (h2 : p x = true) : cnt p (zs.set k x) (zs.set k x).length = cnt p zs zs.length + 1 := by
  unfold cnt
  rw [List.take_length, List.take_length, List.countP_set hk]
  rw [nth, List.getElem?_eq_getElem hk] at h1
  have h1 : p zs[k] = false := h1
  rw [h1, h2]
  simp

theorem clean_step {T : Tab} {ps : List Int} {C : Tab} (h : CleanInv T ps C) {x : Int} (hx : 0 ≤ x ∧ x ≤ 99) (hn : x ∉ ps) (hl : ps.length < T.zs.length) : putOk C x = true ∧ CleanInv T (ps ++ [x]) (putT C x) := by
  have hv := (sound_all.1 h.snd).1
  have hnf : findI C x = -1 := none_find hv fun i hi e => by
    rw [h.len] at hi
    exact hn (e ▸ h.keys i hi (by rw [e]; exact hx.1))
  have hp : putOk C x = true := by
    simp only [putOk, h.snd, Bool.and_true, decide_eq_true_eq]
    refine Int.not_lt.1 fun hlt => ?_
    have := (counts_full hv (place_no hv hx (by omega) hlt)).2.2
    simp only [countK, hv, if_true] at this
    have h1 := h.cnt
    have h2 := h.len
    omega
  refine ⟨hp, ?_⟩
  have P := put_says hp
  have hpl := (putOk_parts hp).1
  have e : placeI C x = ((placeI C x).toNat : Nat) := by omega
  have eU : putT C x = putAt C (placeI C x).toNat x := by simp [putT, hp]
  rw [eU]
  generalize (placeI C x).toNat = k at P
  have hnth : ∀ i, nth (putAt C k x).zs i = if i = k then x else nth C.zs i := fun i => nth_set P.lt x i
  refine ⟨h.t, h.p, (putAt_len C k x).trans h.len, P.sound2, fun i hi h0 => ?_, ?_, fun i hi => ?_⟩
  · rw [hnth] at h0 ⊢
    split
    · simp
    · rename_i hne
      rw [if_neg hne] at h0
      exact List.mem_append_left _ (h.keys i hi h0)
  · have h1 : keyP (nth C.zs k) = false := by
      have hlow := P.low
      have := (valid_slot hv P.lt).1
      have : nth C.zs k = -1 ∨ nth C.zs k = -2 := by omega
      rcases this with e | e <;> rw [e] <;> rfl
    have h2 : keyP x = true := by simp [keyP]; omega
    show cnt keyP (C.zs.set k x) (C.zs.set k x).length = _
    rw [cnt_more P.lt h1 h2, h.cnt]
    simp
  · rw [hnth]
    split
    · omega
    · exact h.tomb i hi

/-- The keys of the first k slots, put one behind the other. -/
theorem clean_to {T : Tab} (hv : validB T = true) (k : Nat) (hk : k ≤ T.zs.length) : CleanInv T (keysLL (T.zs.take k)) (putsT T (keysLL (T.zs.take k))) := by
  obtain ⟨_, _, _, hg⟩ := valid_facts hv
  induction k with
  | zero => simp only [List.take_zero, keysLL, List.filter_nil]; exact clean_nil hv
  | succ k ih =>
    have ih := ih (by omega)
    have hlt : k < T.zs.length := by omega
    have e1 : T.zs.take (k + 1) = T.zs.take k ++ [nth T.zs k] := by
      rw [List.take_add_one, nth, List.getElem?_eq_getElem hlt]; rfl
    have e2 : keysLL (T.zs.take (k + 1)) = keysLL (T.zs.take k) ++ if inB (nth T.zs k) 0 99 then [nth T.zs k] else [] := by
      rw [e1]
      simp [keysLL, List.filter_append, List.filter_cons]
    rw [e2]
    cases hb : inB (nth T.zs k) 0 99
    · simpa using ih
    · simp only [if_true]
      rw [putsT_snoc]
      refine (clean_step ih (inB_iff.1 hb) (fun hm => ?_) ?_).2
      · have hm := (List.mem_filter.1 hm).1
        obtain ⟨j, hj, e⟩ := List.getElem_of_mem hm
        have hj2 : j < k := by simp at hj; omega
        have e3 : nth T.zs j = nth T.zs k := by
          rw [nth, List.getElem?_eq_getElem (by omega)]
          simpa using e
        have := hg.inj (show j < T.zs.length by omega) hlt e3 (by rw [e3]; exact (inB_iff.1 hb).1)
        omega
      · have := List.length_filter_le (fun x => inB x 0 99) (T.zs.take k)
        have h2 := List.length_take_le k T.zs
        unfold keysLL
        omega
theorem clean_put {T : Tab} (hv : validB T = true) {k : Nat} (hk : k < T.zs.length) {x : Int} (hx : nth T.zs k = x) (h0 : 0 ≤ x) :
    putOk (putsT T (keysLL (T.zs.take k))) x = true ∧ putsT T (keysLL (T.zs.take (k + 1))) = putT (putsT T (keysLL (T.zs.take k))) x := by
  obtain ⟨_, _, _, hg⟩ := valid_facts hv
  have ih := clean_to hv k (by omega)
  have hb : inB x 0 99 = true := inB_true ⟨h0, by have := (valid_slot hv hk).2; omega⟩
  have e1 : T.zs.take (k + 1) = T.zs.take k ++ [x] := by
    rw [List.take_add_one, ← hx, nth, List.getElem?_eq_getElem hk]; rfl
  have e2 : keysLL (T.zs.take (k + 1)) = keysLL (T.zs.take k) ++ [x] := by
    rw [e1]; simp [keysLL, List.filter_append, List.filter_cons, hb]
  refine ⟨(clean_step ih (inB_iff.1 hb) (fun hm => ?_) ?_).1, by rw [e2, putsT_snoc]⟩
  · have hm := (List.mem_filter.1 hm).1
    obtain ⟨j, hj, e⟩ := List.getElem_of_mem hm
    have hj2 : j < k := by simp at hj; omega
    have e3 : nth T.zs j = x := by
      rw [nth, List.getElem?_eq_getElem (by omega)]
      simpa using e
    have := hg.inj (show j < T.zs.length by omega) hk (e3.trans hx.symm) (by rw [e3]; exact h0)
    omega
  · have := List.length_filter_le (fun x => inB x 0 99) (T.zs.take k)
    have h2 := List.length_take_le k T.zs
    unfold keysLL
    omega
theorem clean_skip {T : Tab} {k : Nat} (hk : k < T.zs.length) (h0 : nth T.zs k < 0) : keysLL (T.zs.take (k + 1)) = keysLL (T.zs.take k) := by
  have e1 : T.zs.take (k + 1) = T.zs.take k ++ [nth T.zs k] := by
    rw [List.take_add_one, nth, List.getElem?_eq_getElem hk]; rfl
  have hb : inB (nth T.zs k) 0 99 = false := inB_false.2 (by omega)
  rw [e1]
  simp only [keysLL, List.filter_append, List.filter_cons, hb]
  simp
theorem cleanT_no {T : Tab} (h : soundB T = false) : cleanT T = ⟨0, 0, []⟩ := by simp [cleanT, h]
theorem cleanT_yes {T : Tab} (h : soundB T = true) : cleanT T = putsT T (keysLL T.zs) := by simp [cleanT, h]
theorem cleanT_len (T : Tab) : (cleanT T).zs.length ≤ 16 := by
  unfold cleanT
  split
  · rename_i h
    have hv := (sound_all.1 h).1
    have := (clean_to hv T.zs.length (Nat.le_refl _)).len
    rw [List.take_length] at this
    rw [this]
    exact (valid_facts hv).1.2
  · simp

end Go.Proofs.YtpncpeokdcolpaaGreatDoor

namespace Go.Proofs.YtpncpeokdcolpaaGreatDoor

/-- Around a ring of n slots: m slots on from h; and how far s is behind h. -/
def fwd (n h m : Nat) : Nat := if h + m < n then h + m else h + m - n
def dst (n h s : Nat) : Nat := if h ≤ s then s - h else s + n - h
theorem fwd_lt {n h m : Nat} (hh : h < n) (hm : m ≤ n) : fwd n h m < n := by unfold fwd; split <;> omega
theorem dst_lt {n h s : Nat} (hh : h < n) (hs : s < n) : dst n h s < n := by unfold dst; split <;> omega
theorem fwd_dst {n h s : Nat} (hh : h < n) (hs : s < n) : fwd n h (dst n h s) = s := by unfold fwd dst; split <;> split <;> omega
theorem dst_fwd {n h m : Nat} (hh : h < n) (hm : m < n) : dst n h (fwd n h m) = m := by unfold fwd dst; split <;> split <;> omega
theorem dst_cases (n h s : Nat) : (h ≤ s ∧ dst n h s = s - h) ∨ (s < h ∧ dst n h s = s + n - h) := by
  unfold dst; split <;> omega
theorem fwd_cases (n h m : Nat) : (h + m < n ∧ fwd n h m = h + m) ∨ (n ≤ h + m ∧ fwd n h m = h + m - n) := by
  unfold fwd; split <;> omega
theorem dst_cut {n h o d : Nat} (hh : h < n) (_ho : o < n) (hd : d < n) (ha : ¬ dst n h (fwd n o d) < d) : dst n h o + d = dst n h (fwd n o d) := by
  rcases fwd_cases n o d with ⟨c1, e1⟩ | ⟨c1, e1⟩ <;> rcases dst_cases n h (fwd n o d) with ⟨c2, e2⟩ | ⟨c2, e2⟩ <;> rcases dst_cases n h o with ⟨c3, e3⟩ | ⟨c3, e3⟩ <;> omega
theorem dst_past {n h o d : Nat} (hh : h < n) (ho : o < n) (hd : d < n) (ha : dst n h (fwd n o d) < d) (hm : dst n h o < dst n h (fwd n o d)) : False := by
  rcases fwd_cases n o d with ⟨c1, e1⟩ | ⟨c1, e1⟩ <;> rcases dst_cases n h (fwd n o d) with ⟨c2, e2⟩ | ⟨c2, e2⟩ <;> rcases dst_cases n h o with ⟨c3, e3⟩ | ⟨c3, e3⟩ <;> omega
theorem dst_sum {n h o s : Nat} (hh : h < n) (ho : o < n) (hs : s < n) (hm : dst n h o < dst n h s) : dst n h s = dst n h o + dst n o s := by
  rcases dst_cases n h s with ⟨c1, e1⟩ | ⟨c1, e1⟩ <;> rcases dst_cases n o s with ⟨c2, e2⟩ | ⟨c2, e2⟩ <;> rcases dst_cases n h o with ⟨c3, e3⟩ | ⟨c3, e3⟩ <;> omega
theorem fwd_add {n h m d : Nat} (hh : h < n) (hm : m + d < n) : fwd n h (m + d) = fwd n (fwd n h m) d := by
  rcases fwd_cases n h m with ⟨c1, e1⟩ | ⟨c1, e1⟩ <;> rcases fwd_cases n h (m + d) with ⟨c2, e2⟩ | ⟨c2, e2⟩ <;> rcases fwd_cases n (fwd n h m) d with ⟨c3, e3⟩ | ⟨c3, e3⟩ <;> omega
theorem fwd_step {T : Tab} {h m : Nat} (hh : h < T.zs.length) (hm : m ≤ T.zs.length) : stepS T h m = fwd T.zs.length h m := by
  unfold stepS fwd
  split
  · exact Nat.mod_eq_of_lt (by assumption)
  · rw [Nat.mod_eq_sub_mod (by omega), Nat.mod_eq_of_lt (by omega)]
theorem dst_mod {n h s : Nat} (hh : h < n) (hs : s < n) : (s + n - h) % n = dst n h s := by
  unfold dst
  split
  · rw [Nat.mod_eq_sub_mod (by omega), Nat.mod_eq_of_lt (by omega)]; omega
  · exact Nat.mod_eq_of_lt (by omega)

/-- A table's head with other slots. -/
def tab (T : Tab) (zs : List Int) : Tab := ⟨T.t, T.p, zs⟩
theorem tab_self (T : Tab) : tab T T.zs = T := rfl
theorem tab_home {T : Tab} {zs : List Int} (hl : zs.length = T.zs.length) (y : Int) : homeN (tab T zs) y = homeN T y := by simp [homeN, homeI, tab, hl]

/-- How far from home the key of a slot lies. -/
def awN (T : Tab) (zs : List Int) (i : Nat) : Nat := dst T.zs.length (homeN T (nth zs i)) i
theorem awN_of {T : Tab} {zs : List Int} (hv : validB (tab T zs) = true) (hl : zs.length = T.zs.length) {i : Nat} (hi : i < T.zs.length) (h0 : 0 ≤ nth zs i) : awayOf (tab T zs) i = awN T zs i := by
  have hh : homeN (tab T zs) (nth zs i) < (tab T zs).zs.length := homeN_lt hv _
  have hi' : i < (tab T zs).zs.length := by show i < zs.length; omega
  obtain ⟨a1, a2⟩ := step_away hh hi'
  have e := away_step hv (x := nth zs i) a2 (by rw [a1]; rfl) h0
  rw [a1] at e
  rw [e, dst_mod hh hi', tab_home hl]
  show ((dst zs.length _ _ : Nat) : Int) = _
  rw [hl]; rfl

/-- The machine: the slot d behind the hole is looked at. What it hands back: the keys that are shifted, and the slots. -/
def shiftF (T : Tab) : Nat → List Int → Nat → Nat → List Int × List Int
  | 0, zs, _, _ => ([], zs)
  | f + 1, zs, hole, d =>
    if nth zs (fwd T.zs.length hole d) = -1 then ([], zs)
    else if awN T zs (fwd T.zs.length hole d) < d then shiftF T f zs hole (d + 1)
    else ((nth zs (fwd T.zs.length hole d)) :: (shiftF T f ((zs.set hole (nth zs (fwd T.zs.length hole d))).set (fwd T.zs.length hole d) (-1)) (fwd T.zs.length hole d) 1).1,
      (shiftF T f ((zs.set hole (nth zs (fwd T.zs.length hole d))).set (fwd T.zs.length hole d) (-1)) (fwd T.zs.length hole d) 1).2)

structure Hole (T : Tab) (zs : List Int) (hole d : Nat) : Prop where
  val : validB (tab T zs) = true
  len : zs.length = T.zs.length
  lt : hole < T.zs.length
  free : nth zs hole = -1
  d1 : 1 ≤ d
  d2 : d ≤ T.zs.length
  plain : ∀ i, i < T.zs.length → nth zs i ≠ -2

def moved (T : Tab) (zs : List Int) (hole d : Nat) : List Int := (zs.set hole (nth zs (fwd T.zs.length hole d))).set (fwd T.zs.length hole d) (-1)
theorem moved_len (T : Tab) (zs : List Int) (hole d : Nat) : (moved T zs hole d).length = zs.length := by simp [moved]

theorem Hole.klt {T : Tab} {zs : List Int} {hole d : Nat} (h : Hole T zs hole d) : fwd T.zs.length hole d < T.zs.length := fwd_lt h.lt h.d2
theorem Hole.full {T : Tab} {zs : List Int} {hole d : Nat} (h : Hole T zs hole d) (hx : nth zs (fwd T.zs.length hole d) ≠ -1) : d < T.zs.length ∧ fwd T.zs.length hole d ≠ hole ∧ 0 ≤ nth zs (fwd T.zs.length hole d) ∧ nth zs (fwd T.zs.length hole d) ≤ 99 := by
  have hl := h.lt
  have h2 := h.d2
  have hne : fwd T.zs.length hole d ≠ hole := fun e => hx (by rw [e]; exact h.free)
  have hs := valid_slot h.val (i := fwd T.zs.length hole d) (by show _ < zs.length; rw [h.len]; exact h.klt)
  have hp := h.plain _ h.klt
  have : (tab T zs).zs = zs := rfl
  rw [this] at hs
  refine ⟨?_, hne, by omega, hs.2⟩
  refine Nat.lt_of_le_of_ne h2 fun e => hne ?_
  unfold fwd; split <;> omega
theorem Hole.pass {T : Tab} {zs : List Int} {hole d : Nat} (h : Hole T zs hole d) (hx : nth zs (fwd T.zs.length hole d) ≠ -1) : Hole T zs hole (d + 1) :=
  { h with d1 := by omega, d2 := (h.full hx).1 }
theorem Hole.nth_moved {T : Tab} {zs : List Int} {hole d : Nat} (h : Hole T zs hole d) (i : Nat) :
    nth (moved T zs hole d) i = if i = fwd T.zs.length hole d then -1 else if i = hole then nth zs (fwd T.zs.length hole d) else nth zs i := by
  unfold moved
  rw [nth_set (by rw [List.length_set, h.len]; exact h.klt), nth_set (by rw [h.len]; exact h.lt)]
theorem Hole.move {T : Tab} {zs : List Int} {hole d : Nat} (h : Hole T zs hole d) (hx : nth zs (fwd T.zs.length hole d) ≠ -1) : Hole T (moved T zs hole d) (fwd T.zs.length hole d) 1 := by
  obtain ⟨f1, f2, f3, f4⟩ := h.full hx
  have hl := h.lt
  have hk := h.klt
  have hn := h.nth_moved
  obtain ⟨_, _, _, hg⟩ := valid_facts h.val
  have hg : Good zs zs.length := hg
  generalize hkk : fwd T.zs.length hole d = k at *
  refine ⟨validB_iff.2 ⟨?_, ?_⟩, by rw [moved_len]; exact h.len, hk, by rw [hn, if_pos rfl], Nat.le_refl _, by omega, fun i hi => ?_⟩
  · have := (validB_iff.1 h.val).1
    show headB (moved T zs hole d).length T.t T.p = true
    rw [moved_len]; exact this
  · show Good (moved T zs hole d) (moved T zs hole d).length
    rw [moved_len, h.len]
    intro i hi
    rw [hn i]
    refine ⟨?_, fun h0 j hj => ?_⟩
    · split
      · rfl
      · split
        · exact inB_true ⟨by omega, f4⟩
        · exact (hg i (by rw [h.len]; exact hi)).1
    · rw [hn j]
      by_cases c1 : i = k
      · rw [if_pos c1] at h0; omega
      · rw [if_neg c1] at h0 ⊢
        by_cases c2 : i = hole
        · rw [if_pos c2] at h0 ⊢
          split
          · omega
          · rw [if_neg (by omega)]
            intro e
            rename_i c3
            exact c3 (hg.inj (by rw [h.len]; omega) (by rw [h.len]; exact hk) e (by rw [e]; exact h0))
        · rw [if_neg c2] at h0 ⊢
          split
          · omega
          · split
            · intro e
              exact c1 (hg.inj (by rw [h.len]; exact hi) (by rw [h.len]; exact hk) e.symm h0)
            · intro e
              have := hg.inj (by rw [h.len]; omega) (by rw [h.len]; exact hi) e (by rw [e]; exact h0)
              omega
  · rw [hn i]
    split
    · omega
    · split
      · omega
      · exact h.plain i hi

/-- Sums. -/
def sumN (f : Nat → Nat) : Nat → Nat
  | 0 => 0
  | k + 1 => sumN f k + f k
theorem sumN_same {f g : Nat → Nat} {n : Nat} (h : ∀ j, j < n → f j = g j) : sumN f n = sumN g n := by
  induction n with
  | zero => rfl
  | succ n ih => simp only [sumN]; rw [ih fun j hj => h j (by omega), h n (by omega)]
theorem sumN_one {f g : Nat → Nat} {n i : Nat} (hi : i < n) (h : ∀ j, j < n → j ≠ i → f j = g j) : sumN f n + g i = sumN g n + f i := by
  induction n with
  | zero => omega
  | succ n ih =>
    simp only [sumN]
    by_cases e : i = n
    · subst e
      rw [sumN_same (g := g) fun j hj => h j (by omega) (by omega)]; omega
    · have := ih (by omega) fun j hj hne => h j (by omega) hne
      rw [h n (by omega) (by omega)]; omega

def awZ (T : Tab) (zs : List Int) (i : Nat) : Nat := if 0 ≤ nth zs i then awN T zs i else 0
/-- How long the machine may still run. -/
def meas (T : Tab) (zs : List Int) (d : Nat) : Nat := 17 * sumN (awZ T zs) T.zs.length + (17 - d)
theorem meas_pass {T : Tab} {zs : List Int} {hole d : Nat} (h : Hole T zs hole d) (hx : nth zs (fwd T.zs.length hole d) ≠ -1) : meas T zs (d + 1) < meas T zs d := by
  have := (h.full hx).1
  obtain ⟨⟨_, l2⟩, _⟩ := valid_facts h.val
  have l2 : zs.length ≤ 16 := l2
  rw [h.len] at l2
  unfold meas; omega
theorem meas_move {T : Tab} {zs : List Int} {hole d : Nat} (h : Hole T zs hole d) (hx : nth zs (fwd T.zs.length hole d) ≠ -1) (ha : ¬ awN T zs (fwd T.zs.length hole d) < d) : meas T (moved T zs hole d) 1 < meas T zs d := by
  obtain ⟨f1, f2, f3, f4⟩ := h.full hx
  have hl := h.lt
  have hk := h.klt
  have hn := h.nth_moved
  have hd := h.d1
  have hh : homeN T (nth zs (fwd T.zs.length hole d)) < T.zs.length := by
    have := homeN_lt h.val (nth zs (fwd T.zs.length hole d))
    rw [tab_home h.len] at this
    have e : (tab T zs).zs.length = T.zs.length := h.len
    omega
  have hd2 : dst T.zs.length (homeN T (nth zs (fwd T.zs.length hole d))) hole + d = awN T zs (fwd T.zs.length hole d) := by
    exact dst_cut hh hl f1 ha
  have s1 := sumN_one (f := awZ T zs) (g := fun j => if j = hole then awZ T (moved T zs hole d) hole else awZ T zs j) hl fun j _ hne => by simp [hne]
  have s2 := sumN_one (f := fun j => if j = hole then awZ T (moved T zs hole d) hole else awZ T zs j) (g := awZ T (moved T zs hole d)) hk fun j hj hne => by
    by_cases e : j = hole
    · subst e; simp
    · rw [if_neg e]
      unfold awZ awN
      rw [hn j, if_neg hne, if_neg e]
  have z1 : awZ T zs hole = 0 := by unfold awZ; rw [h.free]; rfl
  have z2 : awZ T (moved T zs hole d) (fwd T.zs.length hole d) = 0 := by unfold awZ; rw [hn, if_pos rfl]; rfl
  have z3 : awZ T zs (fwd T.zs.length hole d) = awN T zs (fwd T.zs.length hole d) := by unfold awZ; rw [if_pos f3]
  have z4 : awZ T (moved T zs hole d) hole = dst T.zs.length (homeN T (nth zs (fwd T.zs.length hole d))) hole := by
    unfold awZ awN
    rw [hn hole, if_neg (Ne.symm f2), if_pos rfl, if_pos f3]
  simp only [if_true, z1, f2, if_false, z2, z3, z4] at s1 s2
  unfold meas
  omega

theorem shiftF_enough (T : Tab) : ∀ (f g : Nat) (zs : List Int) (hole d : Nat), Hole T zs hole d → meas T zs d < f → meas T zs d < g → shiftF T f zs hole d = shiftF T g zs hole d := by
  intro f
  induction f with
  | zero => intro g zs hole d _ h; omega
  | succ f ih =>
    intro g zs hole d hH hf hg
    obtain ⟨g, rfl⟩ : ∃ k, g = k + 1 := ⟨g - 1, by omega⟩
    simp only [shiftF]
    split
    · rfl
    · rename_i hx
      split
      · have := meas_pass hH hx
        exact ih _ _ _ _ (hH.pass hx) (by omega) (by omega)
      · rename_i ha
        have := meas_move hH hx ha
        have e := ih g _ _ _ (hH.move hx) (by omega) (by omega)
        unfold moved at e
        rw [e]

/-- All of it. -/
def shiftR (T : Tab) (zs : List Int) (hole d : Nat) : List Int × List Int := shiftF T (meas T zs d + 1) zs hole d
theorem shift_stop {T : Tab} {zs : List Int} {hole d : Nat} (hx : nth zs (fwd T.zs.length hole d) = -1) : shiftR T zs hole d = ([], zs) := by
  unfold shiftR; simp only [shiftF]; rw [if_pos hx]
theorem shift_pass {T : Tab} {zs : List Int} {hole d : Nat} (h : Hole T zs hole d) (hx : nth zs (fwd T.zs.length hole d) ≠ -1) (ha : awN T zs (fwd T.zs.length hole d) < d) : shiftR T zs hole d = shiftR T zs hole (d + 1) := by
  have := meas_pass h hx
  unfold shiftR
  conv => lhs; simp only [shiftF]
  rw [if_neg hx, if_pos ha]
  exact shiftF_enough T _ _ _ _ _ (h.pass hx) (by omega) (by omega)
theorem shift_move {T : Tab} {zs : List Int} {hole d : Nat} (h : Hole T zs hole d) (hx : nth zs (fwd T.zs.length hole d) ≠ -1) (ha : ¬ awN T zs (fwd T.zs.length hole d) < d) :
    shiftR T zs hole d = (nth zs (fwd T.zs.length hole d) :: (shiftR T (moved T zs hole d) (fwd T.zs.length hole d) 1).1, (shiftR T (moved T zs hole d) (fwd T.zs.length hole d) 1).2) := by
  have := meas_move h hx ha
  unfold shiftR
  conv => lhs; simp only [shiftF]
  rw [if_neg hx, if_neg ha]
  have e := shiftF_enough T (meas T zs d) (meas T (moved T zs hole d) 1 + 1) _ _ _ (h.move hx) (by omega) (by omega)
  unfold moved at e
  unfold moved
  rw [e]

/-- No key's way leads over a free slot, but over the hole, of keys that lie d slots or more behind it. -/
def Ways (T : Tab) (zs : List Int) (hole d : Nat) : Prop := ∀ s, s < T.zs.length → 0 ≤ nth zs s → ∀ m, m < awN T zs s →
  nth zs (fwd T.zs.length (homeN T (nth zs s)) m) ≠ -1 ∨ (fwd T.zs.length (homeN T (nth zs s)) m = hole ∧ d ≤ dst T.zs.length hole s)

theorem Hole.home {T : Tab} {zs : List Int} {hole d : Nat} (h : Hole T zs hole d) (y : Int) : homeN T y < T.zs.length := by
  have := homeN_lt h.val y
  rw [tab_home h.len] at this
  have e : (tab T zs).zs.length = T.zs.length := h.len
  omega

theorem Ways.pass {T : Tab} {zs : List Int} {hole d : Nat} (w : Ways T zs hole d) (h : Hole T zs hole d) (hx : nth zs (fwd T.zs.length hole d) ≠ -1) (ha : awN T zs (fwd T.zs.length hole d) < d) : Ways T zs hole (d + 1) := by
  intro s hs h0 m hm
  rcases w s hs h0 m hm with c | ⟨c1, c2⟩
  · exact .inl c
  · right
    refine ⟨c1, ?_⟩
    obtain ⟨f1, f2, f3, f4⟩ := h.full hx
    by_cases e : s = fwd T.zs.length hole d
    · exfalso
      subst e
      have hl := h.lt
      have hh := h.home (nth zs (fwd T.zs.length hole d))
      unfold awN at hm ha
      generalize homeN T (nth zs (fwd T.zs.length hole d)) = hm' at *
      have hlt := dst_lt hh h.klt
      have e2 : dst T.zs.length hm' hole = m := by rw [← c1]; exact dst_fwd hh (by omega)
      exact dst_past hh hl f1 ha (by omega)
    · have hl := h.lt
      have : dst T.zs.length hole s ≠ d := fun e2 => e (by rw [← e2]; exact (fwd_dst hl hs).symm)
      omega
theorem Ways.move {T : Tab} {zs : List Int} {hole d : Nat} (w : Ways T zs hole d) (h : Hole T zs hole d) (hx : nth zs (fwd T.zs.length hole d) ≠ -1) (ha : ¬ awN T zs (fwd T.zs.length hole d) < d) : Ways T (moved T zs hole d) (fwd T.zs.length hole d) 1 := by
  obtain ⟨f1, f2, f3, f4⟩ := h.full hx
  have hl := h.lt
  have hk := h.klt
  have hn := h.nth_moved
  have hd := h.d1
  intro s hs h0 m hm
  by_cases c : nth (moved T zs hole d) (fwd T.zs.length (homeN T (nth (moved T zs hole d) s)) m) = -1
  · right
    rw [hn s] at h0
    split at h0
    · omega
    rename_i s1
    have hms : nth (moved T zs hole d) s = if s = hole then nth zs (fwd T.zs.length hole d) else nth zs s := by rw [hn s, if_neg s1]
    unfold awN at hm
    rw [hms] at hm c ⊢
    have hpos : 1 ≤ dst T.zs.length (fwd T.zs.length hole d) s := by
      generalize fwd T.zs.length hole d = k at *
      unfold dst; split <;> omega
    refine ⟨?_, hpos⟩
    by_cases s2 : s = hole
    · -- the shifted key
      rw [if_pos s2] at hm c ⊢
      subst s2
      exfalso
      have hh := h.home (nth zs (fwd T.zs.length s d))
      have hw := w _ hk f3 m
      unfold awN at hw ha
      have hml : m < dst T.zs.length (homeN T (nth zs (fwd T.zs.length s d))) (fwd T.zs.length s d) ∧ fwd T.zs.length (homeN T (nth zs (fwd T.zs.length s d))) m ≠ s ∧ fwd T.zs.length (homeN T (nth zs (fwd T.zs.length s d))) m ≠ fwd T.zs.length s d := by
        generalize homeN T (nth zs (fwd T.zs.length s d)) = hm' at *
        have hc := dst_cut hh hl f1 ha
        have hlt := dst_lt hh hk
        refine ⟨by omega, fun e => ?_, fun e => ?_⟩
        · have e2 : dst T.zs.length hm' s = m := by rw [← e]; exact dst_fwd hh (by omega)
          omega
        · have e2 : dst T.zs.length hm' (fwd T.zs.length s d) = m := by rw [← e]; exact dst_fwd hh (by omega)
          omega
      rw [hn, if_neg hml.2.2, if_neg hml.2.1] at c
      rcases hw hml.1 with c2 | ⟨c2, _⟩
      · exact c2 c
      · exact hml.2.1 c2
    · rw [if_neg s2] at hm c h0 ⊢
      rw [hn] at c
      split at c
      · assumption
      · rename_i c1
        split at c
        · omega
        · rename_i c2
          rcases w s hs h0 m hm with c3 | ⟨c3, _⟩
          · exact absurd c c3
          · exact absurd c3 c2
  · exact .inl c

/-- What the machine leaves. -/
structure Left (T : Tab) (zs : List Int) : Prop where
  val : validB (tab T zs) = true
  len : zs.length = T.zs.length
  plain : ∀ i, i < T.zs.length → nth zs i ≠ -2
  way : ∀ s, s < T.zs.length → 0 ≤ nth zs s → ∀ m, m < awN T zs s → nth zs (fwd T.zs.length (homeN T (nth zs s)) m) ≠ -1

theorem Ways.stop {T : Tab} {zs : List Int} {hole d : Nat} (w : Ways T zs hole d) (h : Hole T zs hole d) (hx : nth zs (fwd T.zs.length hole d) = -1) : Left T zs := by
  refine ⟨h.val, h.len, h.plain, fun s hs h0 m hm => ?_⟩
  rcases w s hs h0 m hm with c | ⟨c1, c2⟩
  · exact c
  · exfalso
    have hl := h.lt
    have hh := h.home (nth zs s)
    have hd := h.d1
    have hd2 := h.d2
    have hds := dst_lt hl hs
    by_cases e : dst T.zs.length hole s = d
    · rw [← e, fwd_dst hl hs] at hx; omega
    · have hw := w s hs h0
      unfold awN at hm hw
      have hk := h.klt
      -- the free slot lies on the way as well
      have hm2 : m + d < dst T.zs.length (homeN T (nth zs s)) s ∧ fwd T.zs.length (homeN T (nth zs s)) (m + d) = fwd T.zs.length hole d ∧ fwd T.zs.length hole d ≠ hole := by
        generalize homeN T (nth zs s) = hm' at *
        have hml : m < T.zs.length := by have := dst_lt hh hs; omega
        have e2 : dst T.zs.length hm' hole = m := by rw [← c1]; exact dst_fwd hh hml
        have hsum := dst_sum hh hl hs (by omega)
        have hsl := dst_lt hh hs
        refine ⟨by omega, by rw [fwd_add hh (by omega), c1], fun e3 => ?_⟩
        have := dst_fwd hl (m := d) (by omega)
        rw [e3] at this
        have e4 : dst T.zs.length hole hole = 0 := by unfold dst; simp
        omega
      rcases hw (m + d) hm2.1 with c3 | ⟨c3, _⟩
      · rw [hm2.2.1] at c3; exact c3 hx
      · rw [hm2.2.1] at c3; exact hm2.2.2 c3
theorem shift_left (T : Tab) : ∀ (f : Nat) (zs : List Int) (hole d : Nat), Hole T zs hole d → Ways T zs hole d → meas T zs d < f → Left T (shiftF T f zs hole d).2 := by
  intro f
  induction f with
  | zero => intro zs hole d _ _ h; omega
  | succ f ih =>
    intro zs hole d hH hW hf
    simp only [shiftF]
    split
    · rename_i hx; exact hW.stop hH hx
    · rename_i hx
      split
      · rename_i ha
        have := meas_pass hH hx
        exact ih _ _ _ (hH.pass hx) (hW.pass hH hx ha) (by omega)
      · rename_i ha
        have := meas_move hH hx ha
        exact ih (moved T zs hole d) _ _ (hH.move hx) (hW.move hH hx ha) (by omega)

/-- Where no way leads over the hole nothing is shifted. -/
theorem shift_none (T : Tab) : ∀ (f : Nat) (zs : List Int) (hole d : Nat), Hole T zs hole d → Left T zs → meas T zs d < f → shiftF T f zs hole d = ([], zs) := by
  intro f
  induction f with
  | zero => intro zs hole d _ _ h; omega
  | succ f ih =>
    intro zs hole d hH hL hf
    simp only [shiftF]
    split
    · rfl
    · rename_i hx
      obtain ⟨f1, f2, f3, f4⟩ := hH.full hx
      have hk := hH.klt
      have hl := hH.lt
      have hd := hH.d1
      have ha : awN T zs (fwd T.zs.length hole d) < d := by
        refine Nat.lt_of_not_le fun ha => ?_
        have hw := hL.way _ hk f3 (awN T zs (fwd T.zs.length hole d) - d) (by omega)
        have hh := hH.home (nth zs (fwd T.zs.length hole d))
        unfold awN at ha hw
        have e : fwd T.zs.length (homeN T (nth zs (fwd T.zs.length hole d))) (dst T.zs.length (homeN T (nth zs (fwd T.zs.length hole d))) (fwd T.zs.length hole d) - d) = hole := by
          have hc := dst_cut hh hl f1 (by omega)
          rw [show dst T.zs.length (homeN T (nth zs (fwd T.zs.length hole d))) (fwd T.zs.length hole d) - d = dst T.zs.length (homeN T (nth zs (fwd T.zs.length hole d))) hole by omega]
          exact fwd_dst hh hl
        rw [e] at hw
        exact hw hH.free
      rw [if_pos ha]
      have := meas_pass hH hx
      exact ih _ _ _ (hH.pass hx) hL (by omega)

end Go.Proofs.YtpncpeokdcolpaaGreatDoor

namespace Go.Proofs.YtpncpeokdcolpaaGreatDoor

/-- Sound, and without tombs. -/
def plainB (T : Tab) : Bool := soundB T && !decide (-2 ∈ T.zs)
theorem plain_parts {T : Tab} (h : plainB T = true) : soundB T = true ∧ validB T = true ∧ ∀ i, i < T.zs.length → nth T.zs i ≠ -2 := by
  simp only [plainB, Bool.and_eq_true, Bool.not_eq_true', decide_eq_false_iff_not] at h
  exact ⟨h.1, (sound_all.1 h.1).1, fun i hi e => h.2 (by rw [← e]; exact nth_mem hi)⟩

theorem tab_id {T : Tab} {zs : List Int} (h : zs = T.zs) : tab T zs = T := by subst h; rfl

/-- A plain table has no free slot on any way. -/
theorem plain_left {T : Tab} (h : plainB T = true) : Left T T.zs := by
  obtain ⟨hs, hv, hp⟩ := plain_parts h
  refine ⟨hv, rfl, hp, fun s hs' h0 m hm => ?_⟩
  have hf := (sound_all.1 hs).2 s hs' h0
  have hh := homeN_lt hv (nth T.zs s)
  obtain ⟨a1, a2⟩ := step_away hh hs'
  rw [found_iff hv a2 (by rw [a1]) h0] at hf
  rw [dst_mod hh hs'] at hf
  have hml := dst_lt hh hs'
  have := hf m hm
  unfold awN at hm
  rwa [fwd_step hh (by omega)] at this
theorem left_plain {T : Tab} {zs : List Int} (h : Left T zs) : plainB (tab T zs) = true := by
  have hl : (tab T zs).zs.length = T.zs.length := h.len
  have hs : soundB (tab T zs) = true := by
    refine sound_all.2 ⟨h.val, fun i hi h0 => ?_⟩
    rw [hl] at hi
    have h0' : 0 ≤ nth zs i := h0
    have hh := homeN_lt h.val (nth zs i)
    obtain ⟨a1, a2⟩ := step_away hh (by rw [hl]; exact hi)
    show 0 ≤ findI (tab T zs) (nth zs i)
    refine (found_iff h.val a2 (by rw [a1]; rfl) h0').2 fun m hm => ?_
    rw [dst_mod hh (by rw [hl]; exact hi)] at hm a2
    show nth zs _ ≠ -1
    rw [fwd_step hh (by omega), hl, tab_home h.len]
    rw [hl, tab_home h.len] at hm
    exact h.way i hi h0' m hm
  simp only [plainB, hs, Bool.true_and, Bool.not_eq_true', decide_eq_false_iff_not]
  intro hm
  obtain ⟨i, hi, e⟩ := mem_nth (zs := zs) hm
  exact h.plain i (by rw [← h.len]; exact hi) e

/-- A key's slot becomes the hole. -/
theorem hole_start {T : Tab} {zs : List Int} (h : Left T zs) {k : Nat} (hk : k < T.zs.length) (_h0 : 0 ≤ nth zs k) : Hole T (zs.set k (-1)) k 1 ∧ Ways T (zs.set k (-1)) k 1 := by
  have hkz : k < zs.length := by rw [h.len]; exact hk
  have hn := nth_set hkz (-1)
  obtain ⟨h1, h2⟩ := validB_iff.1 h.val
  have h2 : Good zs zs.length := h2
  constructor
  · refine ⟨validB_iff.2 ⟨?_, ?_⟩, by simp [h.len], hk, by rw [hn, if_pos rfl], Nat.le_refl _, by omega, fun i hi => ?_⟩
    · show headB (zs.set k (-1)).length T.t T.p = true
      rw [List.length_set]; exact h1
    · show Good (zs.set k (-1)) (zs.set k (-1)).length
      rw [List.length_set]
      intro i hi
      rw [hn i]
      refine ⟨?_, fun h0 j hj => ?_⟩
      · split
        · rfl
        · exact (h2 i hi).1
      · split at h0
        · omega
        · rename_i hne
          rw [hn j, if_neg hne]
          split
          · omega
          · exact (h2 i hi).2 h0 j hj
    · rw [hn i]
      split
      · omega
      · exact h.plain i hi
  · intro s hs hs0 m hm
    rw [hn s] at hs0
    split at hs0
    · omega
    rename_i hne
    have e : nth (zs.set k (-1)) s = nth zs s := by rw [hn, if_neg hne]
    unfold awN at hm
    rw [e] at hm ⊢
    rw [hn]
    split
    · rename_i e2
      right
      refine ⟨e2, ?_⟩
      rcases dst_cases T.zs.length k s with ⟨c, e3⟩ | ⟨c, e3⟩ <;> omega
    · left
      exact h.way s hs hs0 m hm

def shiftOk (T : Tab) (key : Int) : Bool := decide (0 ≤ findOf T key) && plainB T
/-- The keys that are shifted, and the slots behind that, of a table in whose slot k the key lies. -/
def shiftZ (T : Tab) (zs : List Int) (k : Nat) : List Int × List Int := shiftR T (zs.set k (-1)) k 1
def shiftL (T : Tab) (key : Int) : List Int := if shiftOk T key then (shiftZ T T.zs (findOf T key).toNat).1 else []
def shiftT (T : Tab) (key : Int) : Tab := if shiftOk T key then tab T (shiftZ T T.zs (findOf T key).toNat).2 else ⟨0, 0, []⟩

theorem shiftZ_left {T : Tab} {zs : List Int} (h : Left T zs) {k : Nat} (hk : k < T.zs.length) (h0 : 0 ≤ nth zs k) : Left T (shiftZ T zs k).2 := by
  obtain ⟨h1, h2⟩ := hole_start h hk h0
  exact shift_left T _ _ _ _ h1 h2 (Nat.lt_succ_self _)

structure ShiftSays (T : Tab) (key : Int) (k : Nat) : Prop where
  plain : plainB T = true
  val : validB T = true
  lt : k < T.zs.length
  find : findOf T key = k
  here : nth T.zs k = key
  key0 : 0 ≤ key ∧ key ≤ 99
  hole : Hole T (T.zs.set k (-1)) k 1
  left : Left T (shiftZ T T.zs k).2
theorem shift_says {T : Tab} {key : Int} (h : shiftOk T key = true) : ∃ k : Nat, ShiftSays T key k := by
  simp only [shiftOk, Bool.and_eq_true, decide_eq_true_eq] at h
  obtain ⟨hf, hp⟩ := h
  have hL := plain_left hp
  obtain ⟨_, hv, _⟩ := plain_parts hp
  obtain ⟨⟨l1, _⟩, _⟩ := valid_facts hv
  have hf0 := hf
  unfold findOf at hf
  split at hf
  · rename_i hvk
    simp only [Bool.and_eq_true] at hvk
    have hk := inB_iff.1 hvk.2
    obtain ⟨e1, e2⟩ := find_yes hf
    have hlt := lastOf_lt (T := T) l1 key
    have hfo : findOf T key = lastOf T key := by unfold findOf; rw [if_pos (by simp [hvk]), e1]
    have h0 : 0 ≤ nth T.zs (lastOf T key) := by rw [e2]; exact hk.1
    exact ⟨lastOf T key, hp, hv, hlt, hfo, e2, hk, (hole_start hL hlt h0).1, shiftZ_left hL hlt h0⟩
  · omega

/-- One key of a list. -/
def stepZ (T : Tab) (zs : List Int) (x : Int) : List Int := if 0 ≤ findI (tab T zs) x then (shiftZ T zs (findI (tab T zs) x).toNat).2 else zs
def shiftsTo (T : Tab) (ks : List Int) : Nat → List Int
  | 0 => T.zs
  | j + 1 => stepZ T (shiftsTo T ks j) (nth ks j)
def shiftsOk (T : Tab) (ks : List Int) : Bool := plainB T && keysB ks
def shiftsT (T : Tab) (ks : List Int) : Tab := if shiftsOk T ks then tab T (shiftsTo T ks ks.length) else ⟨0, 0, []⟩

/-- A key that is found lies where it is found. -/
theorem left_find {T : Tab} {zs : List Int} (h : Left T zs) {x : Int} (hf : 0 ≤ findI (tab T zs) x) : (findI (tab T zs) x).toNat < T.zs.length ∧ nth zs (findI (tab T zs) x).toNat = x ∧ ((findI (tab T zs) x).toNat : Int) = findI (tab T zs) x := by
  have l1 : 1 ≤ (tab T zs).zs.length := (valid_facts h.val).1.1
  obtain ⟨e1, e2⟩ := find_yes hf
  have hlt := lastOf_lt (T := tab T zs) l1 x
  have hl : (tab T zs).zs.length = T.zs.length := h.len
  rw [e1]
  rw [Int.toNat_natCast]
  exact ⟨by rw [← hl]; exact hlt, e2, rfl⟩
theorem stepZ_left {T : Tab} {zs : List Int} (h : Left T zs) {x : Int} (h0 : 0 ≤ x) : Left T (stepZ T zs x) := by
  unfold stepZ
  split
  · rename_i hf
    obtain ⟨a, b, _⟩ := left_find h hf
    exact shiftZ_left h a (by rw [b]; exact h0)
  · exact h
theorem keysB_nth {ks : List Int} (h : keysB ks = true) {j : Nat} (hj : j < ks.length) : 0 ≤ nth ks j ∧ nth ks j ≤ 99 := by
  simp only [keysB, Bool.and_eq_true, List.all_eq_true] at h
  exact inB_iff.1 (h.2 _ (nth_mem hj))
theorem shiftsTo_left {T : Tab} {ks : List Int} (h : shiftsOk T ks = true) : ∀ j, j ≤ ks.length → Left T (shiftsTo T ks j) := by
  simp only [shiftsOk, Bool.and_eq_true] at h
  intro j
  induction j with
  | zero => intro _; exact plain_left h.1
  | succ j ih => intro hj; exact stepZ_left (ih (by omega)) (keysB_nth h.2 (by omega)).1

/-- A key that was put last is shifted away, and nothing else. -/
theorem shift_back {T : Tab} {key : Int} (h : putOk T key = true) (ht : ∀ i, i < T.zs.length → nth T.zs i ≠ -2) :
    shiftOk (putT T key) key = true ∧ shiftL (putT T key) key = [] ∧ shiftT (putT T key) key = T := by
  obtain ⟨hp, hs⟩ := putOk_parts h
  have P := put_says h
  have e : putT T key = putAt T (placeI T key).toNat key := by simp [putT, h]
  generalize (placeI T key).toNat = k at P e
  rw [e]
  have hL : Left T T.zs := plain_left (by simp only [plainB, hs, Bool.true_and, Bool.not_eq_true', decide_eq_false_iff_not]; intro hm; obtain ⟨i, hi, e⟩ := mem_nth hm; exact ht i hi e)
  have hlow : nth T.zs k = -1 := by
    have h1 := P.low
    have h2 := ht k P.lt
    have h3 := (valid_slot P.val P.lt).1
    omega
  have hfo : findOf (putAt T k key) key = k := by
    unfold findOf
    rw [if_pos (by rw [P.val2, inB_true P.key0]; rfl), P.find2]
  have hpl : plainB (putAt T k key) = true := by
    simp only [plainB, P.sound2, Bool.true_and, Bool.not_eq_true', decide_eq_false_iff_not]
    intro hm
    obtain ⟨i, hi, e⟩ := mem_nth hm
    rw [putAt_len] at hi
    have : nth (putAt T k key).zs i = if i = k then key else nth T.zs i := nth_set P.lt _ _
    rw [this] at e
    split at e
    · have := P.key0; omega
    · exact ht i hi e
  have hok : shiftOk (putAt T k key) key = true := by
    simp only [shiftOk, hpl, hfo, Bool.and_true, decide_eq_true_eq]; omega
  have hset : (putAt T k key).zs.set k (-1) = T.zs := by
    refine nth_ext (by simp [putAt]) fun i hi => ?_
    simp only [putAt, List.set_set]
    rw [nth_set P.lt]
    split
    · rename_i e; subst e; exact hlow.symm
    · rfl
  have hH : Hole (putAt T k key) T.zs k 1 := by
    have hlp : 1 ≤ T.zs.length := (valid_facts P.val).1.1
    exact ⟨P.val, by simp [putAt], by rw [putAt_len]; exact P.lt, hlow, Nat.le_refl _, by rw [putAt_len]; exact hlp, fun i hi => ht i (by rwa [putAt_len] at hi)⟩
  have hL2 : Left (putAt T k key) T.zs := by
    refine ⟨P.val, by simp [putAt], fun i hi => ht i (by rwa [putAt_len] at hi), fun s hs h0 m hm => ?_⟩
    unfold awN at hm
    rw [putAt_len] at hs hm ⊢
    rw [putAt_home] at hm ⊢
    exact hL.way s hs h0 m hm
  have hz : shiftZ (putAt T k key) (putAt T k key).zs k = ([], T.zs) := by
    unfold shiftZ shiftR
    rw [hset]
    exact shift_none _ _ _ _ _ hH hL2 (Nat.lt_succ_self _)
  refine ⟨hok, ?_, ?_⟩
  · unfold shiftL
    rw [if_pos hok, hfo]
    show (shiftZ _ _ k).1 = _
    rw [hz]
  · unfold shiftT
    rw [if_pos hok, hfo]
    show tab _ (shiftZ _ _ k).2 = _
    rw [hz]
    rfl

end Go.Proofs.YtpncpeokdcolpaaGreatDoor

namespace Go.Proofs.YtpncpeokdcolpaaGreatDoor

/-- The key of slot s stands ahead of another one that has come d slots far. -/
def aheadB (T : Tab) (s : Nat) (key : Int) (d : Nat) : Bool := decide ((d : Int) < awayOf T s) || ((awayOf T s == (d : Int)) && decide (nth T.zs s < key))
/-- As the program asks it. -/
theorem ahead_if (T : Tab) (s : Nat) (key : Int) (d : Nat) : aheadB T s key d = if awayOf T s = (d : Int) then decide (nth T.zs s < key) else decide (awayOf T s > (d : Int)) := by
  unfold aheadB
  by_cases h : awayOf T s = (d : Int)
  · rw [if_pos h, h]; simp
  · rw [if_neg h, beq_eq_false_iff_ne.2 h]; simp
theorem ahead_free {T : Tab} {s : Nat} {key : Int} {d : Nat} (h : awayOf T s < 0) : aheadB T s key d = false := by
  unfold aheadB
  rw [beq_eq_false_iff_ne.2 (by omega)]
  simp; omega

/-- How many slots a key goes past. -/
def passN (T : Tab) (key : Int) : Nat := goN (fun d => !aheadB T (stepS T (homeN T key) d) key d) T.zs.length

/-- The key of slot i has passed all slots ahead of it rightly. -/
def wayB (T : Tab) (i : Nat) (j : Nat) : Bool := (List.range j).all fun d => aheadB T (stepS T (homeN T (nth T.zs i)) d) (nth T.zs i) d
def slotB (T : Tab) (i : Nat) : Bool := decide (nth T.zs i < 0) || wayB T i (awN T T.zs i)
def fairTo (T : Tab) (k : Nat) : Bool := (List.range k).all fun i => slotB T i
def fairB (T : Tab) : Bool := plainB T && decide (-1 ∈ T.zs) && fairTo T T.zs.length

theorem wayB_iff {T : Tab} {i j : Nat} : wayB T i j = true ↔ ∀ d, d < j → aheadB T (stepS T (homeN T (nth T.zs i)) d) (nth T.zs i) d = true := by
  simp [wayB, List.all_eq_true, List.mem_range]
theorem fairTo_iff {T : Tab} {k : Nat} : fairTo T k = true ↔ ∀ i, i < k → slotB T i = true := by
  simp [fairTo, List.all_eq_true, List.mem_range]
theorem fairTo_succ (T : Tab) (k : Nat) : fairTo T (k + 1) = (fairTo T k && slotB T k) := by
  simp [fairTo, List.range_succ]
theorem wayB_succ (T : Tab) (i j : Nat) : wayB T i (j + 1) = (wayB T i j && aheadB T (stepS T (homeN T (nth T.zs i)) j) (nth T.zs i) j) := by
  simp [wayB, List.range_succ]
theorem fair_not {T : Tab} {k : Nat} (hk : k < T.zs.length) (h : slotB T k = false) : fairTo T T.zs.length = false := by
  cases hf : fairTo T T.zs.length
  · rfl
  · have := fairTo_iff.1 hf k hk
    rw [h] at this; cases this
theorem way_not {T : Tab} {i d j : Nat} (hd : d < j) (h : aheadB T (stepS T (homeN T (nth T.zs i)) d) (nth T.zs i) d = false) : wayB T i j = false := by
  cases hf : wayB T i j
  · rfl
  · have := wayB_iff.1 hf d hd
    rw [h] at this; cases this

/-- Where slot i holds a key it is the one that lies so far from its home. -/
theorem away_self {T : Tab} (hv : validB T = true) {i : Nat} (hi : i < T.zs.length) (h0 : 0 ≤ nth T.zs i) : awayOf T i = awN T T.zs i ∧ awN T T.zs i < T.zs.length ∧ stepS T (homeN T (nth T.zs i)) (awN T T.zs i) = i := by
  have hh := homeN_lt hv (nth T.zs i)
  refine ⟨awN_of (T := T) hv rfl hi h0, dst_lt hh hi, ?_⟩
  have hd := dst_lt hh hi
  rw [fwd_step hh (by unfold awN; omega)]
  exact fwd_dst hh hi
/-- A key goes past just the slots ahead of its own. -/
theorem pass_self {T : Tab} (hv : validB T = true) {i : Nat} (hi : i < T.zs.length) (h0 : 0 ≤ nth T.zs i) : (passN T (nth T.zs i) = awN T T.zs i) ↔ slotB T i = true := by
  obtain ⟨e1, e2, e3⟩ := away_self hv hi h0
  have hn : ¬ nth T.zs i < 0 := by omega
  have hself : aheadB T (stepS T (homeN T (nth T.zs i)) (awN T T.zs i)) (nth T.zs i) (awN T T.zs i) = false := by
    rw [e3]; unfold aheadB; rw [e1]; simp
  simp only [slotB, hn, decide_false, Bool.false_or]
  rw [wayB_iff]
  unfold passN
  constructor
  · intro h d hd
    rw [← h] at hd
    have := goN_free hd
    simpa using this
  · intro h
    exact goN_eq e2 (fun d hd => by simp [h d hd]) (by simp [hself])

theorem fair_parts {T : Tab} (h : fairB T = true) : plainB T = true ∧ -1 ∈ T.zs ∧ fairTo T T.zs.length = true := by
  simp only [fairB, Bool.and_eq_true, decide_eq_true_eq] at h
  exact ⟨h.1.1, h.1.2, h.2⟩
/-- Some slot is free: somewhere on the way around from any home. -/
theorem free_step {T : Tab} {h : Nat} (hh : h < T.zs.length) (hf : -1 ∈ T.zs) : ∃ d, d < T.zs.length ∧ nth T.zs (stepS T h d) = -1 := by
  obtain ⟨i, hi, e⟩ := mem_nth hf
  obtain ⟨a1, a2⟩ := step_away hh hi
  exact ⟨_, a2, by rw [a1]; exact e⟩
theorem free_away {T : Tab} {i : Nat} (h : nth T.zs i < 0) : awayOf T i = -1 := (awayOf_no (.inr (.inr (by rw [Int.toNat_natCast]; exact h)))).symm
/-- In a table with a free slot no key goes past all slots. -/
theorem pass_lt {T : Tab} (hv : validB T = true) (hf : -1 ∈ T.zs) (key : Int) : passN T key < T.zs.length := by
  obtain ⟨d, hd, e⟩ := free_step (homeN_lt hv key) hf
  refine Nat.lt_of_not_le fun hn => ?_
  have hle := goN_le (fun d => !aheadB T (stepS T (homeN T key) d) key d) T.zs.length
  unfold passN at hn
  have := goN_free (p := fun d => !aheadB T (stepS T (homeN T key) d) key d) (n := T.zs.length) (j := d) (by omega)
  rw [ahead_free (by rw [free_away (by omega)]; omega)] at this
  simp at this
/-- What the model asks at each slot: free, the key itself, or not ahead: is just the last of these. -/
theorem stop_same {T : Tab} (hv : validB T = true) {key : Int} (h0 : 0 ≤ key) {d : Nat} (hd : d < T.zs.length) :
    (nth T.zs (stepS T (homeN T key) d) = -1 ∨ nth T.zs (stepS T (homeN T key) d) = key) → aheadB T (stepS T (homeN T key) d) key d = false := by
  have hh := homeN_lt hv key
  rintro (h | h)
  · exact ahead_free (by rw [free_away (by omega)]; omega)
  · have := away_step hv hd h h0
    unfold aheadB
    rw [this, h]; simp

def fairVis (T : Tab) (key : Int) : Int := if fairB T && inB key 0 99 then (passN T key : Int) + 1 else -1

end Go.Proofs.YtpncpeokdcolpaaGreatDoor

namespace Go.Proofs.YtpncpeokdcolpaaGreatDoor

/-- The slot in front of a slot. -/
def prevS (T : Tab) (i : Nat) : Nat := (i + T.zs.length - 1) % T.zs.length
theorem prevS_lt {T : Tab} (hn : 1 ≤ T.zs.length) (i : Nat) : prevS T i < T.zs.length := Nat.mod_lt _ (by omega)
theorem prev_cast {T : Tab} (hn : 1 ≤ T.zs.length) (i : Nat) : ((i : Int) + (T.zs.length : Int) - 1) % (T.zs.length : Int) = (prevS T i : Int) := by
  have : ((i : Int) + (T.zs.length : Int) - 1) = ((i + T.zs.length - 1 : Nat) : Int) := by omega
  rw [this, prevS, Int.natCast_emod]

/-- A run opens at a slot. -/
def startB (T : Tab) (i : Nat) : Bool := (nth T.zs i != -1) && !(decide (1 < T.zs.length) && (nth T.zs (prevS T i) != -1))
/-- How many slots in a row are not free, from a slot on. -/
def sizeFrom (T : Tab) (i : Nat) : Nat := goN (fun j => nth T.zs (stepS T i j) == -1) T.zs.length
def runsTo (T : Tab) (k : Nat) : List (Nat × Nat) := ((List.range k).filter (startB T)).map fun i => (i, sizeFrom T i)
/-- The runs of a valid table. -/
def runsL (T : Tab) : List (Nat × Nat) := if (runsTo T T.zs.length).length = 0 ∧ nth T.zs 0 ≠ -1 then [(0, T.zs.length)] else runsTo T T.zs.length

theorem runsTo_yes {T : Tab} {k : Nat} (h : startB T k = true) : runsTo T (k + 1) = runsTo T k ++ [(k, sizeFrom T k)] := by
  simp [runsTo, List.range_succ, List.filter_append, h]
theorem runsTo_no {T : Tab} {k : Nat} (h : startB T k = false) : runsTo T (k + 1) = runsTo T k := by
  simp [runsTo, List.range_succ, List.filter_append, h]
theorem runsTo_len (T : Tab) (k : Nat) : (runsTo T k).length ≤ k := by
  simp only [runsTo, List.length_map]
  exact Nat.le_trans (List.length_filter_le _ _) (by simp)

end Go.Proofs.YtpncpeokdcolpaaGreatDoor

namespace Go.Proofs.YtpncpeokdcolpaaGreatDoor

/-- How many are counted up to the first that stops, this one included, or all. -/
def cntN (p : Nat → Bool) (n : Nat) : Nat := min (goN p n + 1) n
theorem cntN_stop {p : Nat → Bool} {n i : Nat} (hi : i < n) (hf : ∀ j, j < i → p j = false) (hp : p i = true) : cntN p n = i + 1 := by
  unfold cntN
  rw [goN_eq hi hf hp]
  omega
theorem cntN_all {p : Nat → Bool} {n : Nat} (hf : ∀ j, j < n → p j = false) : cntN p n = n := by
  unfold cntN
  rw [goN_all hf]
  omega
theorem cntN_bounds {p : Nat → Bool} {n : Nat} (hn : 1 ≤ n) : 1 ≤ cntN p n ∧ cntN p n ≤ n := by
  unfold cntN
  omega
theorem cntN_free {p : Nat → Bool} {n i : Nat} (hi : i + 1 < cntN p n) : p i = false := goN_free (n := n) (by unfold cntN at hi; omega)
theorem cntN_last (p : Nat → Bool) (n : Nat) : p (cntN p n - 1) = true ∨ (cntN p n = n ∧ ∀ j, j < n → p j = false) := by
  by_cases h : goN p n < n
  · left
    have := goN_stop h
    rw [show cntN p n - 1 = goN p n by unfold cntN; omega]
    exact this
  · right
    have := goN_le p n
    exact ⟨by unfold cntN; omega, fun j hj => goN_free (n := n) (by omega)⟩

/-- A slot at which one stops who looks for no key in particular. -/
def freeAt (T : Tab) (h d : Nat) : Bool := nth T.zs (stepS T h d) == -1
def missN (T : Tab) (h : Nat) : Nat := cntN (freeAt T h) T.zs.length
def missI (T : Tab) (home : Int) : Int := if validB T && inB home 0 (T.zs.length - 1) then missN T home.toNat else -1
/-- What is visited from the first k homes on. -/
def missTo (T : Tab) (k : Nat) : Nat := ((List.range k).map (missN T)).sum
theorem missTo_succ (T : Tab) (k : Nat) : missTo T (k + 1) = missTo T k + missN T k := by
  simp [missTo, List.range_succ]
theorem missTo_le {T : Tab} (l1 : 1 ≤ T.zs.length) (k : Nat) : missTo T k ≤ k * T.zs.length := by
  induction k with
  | zero => simp [missTo]
  | succ k ih =>
    have := (cntN_bounds (p := freeAt T k) l1).2
    rw [missTo_succ, Nat.succ_mul]
    unfold missN
    omega
def missAll (T : Tab) : Int := if validB T then missTo T T.zs.length else -1
/-- The first of the first k homes from which most are visited. -/
def worstTo (T : Tab) : Nat → Nat
  | 0 => 0
  | k + 1 => if missN T (worstTo T k) < missN T k then k else worstTo T k
theorem worstTo_le (T : Tab) (k : Nat) : worstTo T k ≤ k := by
  induction k with
  | zero => exact Nat.le_refl _
  | succ k ih =>
    unfold worstTo
    split <;> omega
theorem worstTo_lt {T : Tab} {k : Nat} (hk : 1 ≤ k) : worstTo T k < k := by
  induction k with
  | zero => omega
  | succ k ih =>
    unfold worstTo
    split
    · omega
    · have := worstTo_le T k
      omega
def worstI (T : Tab) : Int := if validB T then worstTo T T.zs.length else -1
/-- What is visited to find some keys. -/
def hitsL (T : Tab) (l : List Int) : Int := (l.map (visOf T)).sum
theorem hitsL_snoc (T : Tab) (l : List Int) (x : Int) : hitsL T (l ++ [x]) = hitsL T l + visOf T x := by
  simp [hitsL]
theorem hitsL_perm {T : Tab} {l m : List Int} (h : l.Perm m) : hitsL T l = hitsL T m := by
  unfold hitsL
  induction h with
  | nil => rfl
  | cons x _ ih => simp [ih]
  | swap x y l => simp; omega
  | trans _ _ a b => exact a.trans b
def hitI (T : Tab) : Int := if soundB T then hitsL T (sortU T.zs) else -1
theorem visOf_bounds {T : Tab} (hv : validB T = true) {key : Int} (hk : inB key 0 99 = true) : 1 ≤ visOf T key ∧ visOf T key ≤ 16 := by
  obtain ⟨⟨l1, l2⟩, _⟩ := valid_facts hv
  have := visN_bounds l1 key (homeN T key)
  simp [visOf, hv, hk]
  omega
theorem hitsL_bounds {T : Tab} (hv : validB T = true) {l : List Int} (hl : ∀ x ∈ l, inB x 0 99 = true) : 0 ≤ hitsL T l ∧ hitsL T l ≤ 16 * l.length := by
  induction l with
  | nil => simp [hitsL]
  | cons x l ih =>
    have h1 := ih fun y hy => hl y (List.mem_cons_of_mem _ hy)
    have h2 := visOf_bounds hv (hl x (List.mem_cons_self ..))
    simp only [hitsL, List.map_cons, List.sum_cons, List.length_cons] at h1 ⊢
    omega

/-- A slot at which one stops who looks in a fair table for a key greater than all with a home. -/
def nearAt (T : Tab) (h d : Nat) : Bool := decide (awayOf T (stepS T h d : Nat) < (d : Int))
def fmissN (T : Tab) (h : Nat) : Nat := cntN (nearAt T h) T.zs.length
def fmissI (T : Tab) (home : Int) : Int := if fairB T && inB home 0 (T.zs.length - 1) then fmissN T home.toNat else -1

end Go.Proofs.YtpncpeokdcolpaaGreatDoor

namespace Go.Proofs.YtpncpeokdcolpaaGreatDoor

/-- Two lists with the same keys have the same sorted keys. -/
theorem sortU_same {xs ys : List Int} (h : ∀ x, 0 ≤ x → x ≤ 99 → (x ∈ xs ↔ x ∈ ys)) : sortU xs = sortU ys := by
  unfold sortU sortTo
  congr 1
  refine List.filter_congr fun k hk => ?_
  have hk := List.mem_range.1 hk
  have e : ∀ zs : List Int, (0 ≤ fnd zs (k : Int)) ↔ (k : Int) ∈ zs := fun zs => by
    rcases fnd_cases zs (k : Int) with ⟨h1, h2⟩ | ⟨j, hj, h1, h2, _⟩
    · constructor
      · intro h0; omega
      · intro hm
        obtain ⟨i, hi, e⟩ := mem_nth hm
        exact absurd e (h2 i hi)
    · constructor
      · intro _; rw [← h2]; exact nth_mem hj
      · intro _; omega
  have h1 := h (k : Int) (by omega) (by omega)
  rw [Bool.eq_iff_iff, decide_eq_true_eq, decide_eq_true_eq, e, e]
  exact h1

/-- What has been put is there. -/
theorem put_has {C : Tab} {x : Int} (h : putOk C x = true) : (∃ i, i < C.zs.length ∧ nth (putT C x).zs i = x) ∧ ∀ i, i < C.zs.length → 0 ≤ nth C.zs i → nth (putT C x).zs i = nth C.zs i := by
  have P := put_says h
  have eU : putT C x = putAt C (placeI C x).toNat x := by simp [putT, h]
  rw [eU]
  generalize (placeI C x).toNat = k at P
  have hnth : ∀ i, nth (putAt C k x).zs i = if i = k then x else nth C.zs i := fun i => nth_set P.lt x i
  refine ⟨⟨k, P.lt, by rw [hnth, if_pos rfl]⟩, fun i hi h0 => ?_⟩
  rw [hnth, if_neg]
  rintro rfl
  have := P.low
  omega
theorem clean_has {T : Tab} (hv : validB T = true) (k : Nat) (hk : k ≤ T.zs.length) : ∀ x, x ∈ keysLL (T.zs.take k) → ∃ i, i < T.zs.length ∧ nth (putsT T (keysLL (T.zs.take k))).zs i = x := by
  induction k with
  | zero => intro x hx; simp [keysLL] at hx
  | succ k ih =>
    have ih := ih (by omega)
    have hlt : k < T.zs.length := by omega
    have CI := clean_to hv k (by omega)
    by_cases h0 : 0 ≤ nth T.zs k
    · obtain ⟨hok, hput⟩ := clean_put hv hlt rfl h0
      obtain ⟨h1, h2⟩ := put_has hok
      rw [CI.len] at h1 h2
      rw [hput]
      have e1 : T.zs.take (k + 1) = T.zs.take k ++ [nth T.zs k] := by
        rw [List.take_add_one, nth, List.getElem?_eq_getElem hlt]; rfl
      intro x hx
      rw [e1, keysLL, List.filter_append] at hx
      rcases List.mem_append.1 hx with hx | hx
      · obtain ⟨i, hi, e⟩ := ih x hx
        have hx0 := (inB_iff.1 (List.mem_filter.1 hx).2).1
        exact ⟨i, hi, by rw [h2 i hi (by omega), e]⟩
      · have := (List.mem_filter.1 hx).1
        obtain rfl := List.mem_singleton.1 this
        exact h1
    · rw [clean_skip hlt (by omega)]
      exact ih
/-- The clean table has the same keys. -/
theorem clean_keys {T : Tab} (hs : soundB T = true) : validB (cleanT T) = true ∧ soundB (cleanT T) = true ∧ ∀ x : Int, 0 ≤ x → x ≤ 99 → (x ∈ (cleanT T).zs ↔ x ∈ T.zs) := by
  have hv := (sound_all.1 hs).1
  have CI := clean_to hv T.zs.length (Nat.le_refl _)
  have CH := clean_has hv T.zs.length (Nat.le_refl _)
  rw [List.take_length] at CI CH
  rw [cleanT_yes hs]
  refine ⟨(sound_all.1 CI.snd).1, CI.snd, fun x h0 h9 => ⟨fun hm => ?_, fun hm => ?_⟩⟩
  · obtain ⟨i, hi, rfl⟩ := mem_nth hm
    rw [CI.len] at hi
    exact (List.mem_filter.1 (CI.keys i hi h0)).1
  · obtain ⟨i, hi, e⟩ := CH x (List.mem_filter.2 ⟨hm, inB_true ⟨h0, h9⟩⟩)
    rw [← e]
    exact nth_mem (by rw [CI.len]; exact hi)

/-- A key that is dropped and put again: it is found as soon, and the clean tables have the same keys. -/
structure AgainFacts (T : Tab) (key : Int) (V : Tab) : Prop where
  put : putOk (dropT T key) key = true
  le : visOf V key ≤ visOf T key
  snd : soundB V = true
  keys : sortU (cleanT T).zs = sortU (cleanT V).zs
theorem again_facts {T : Tab} {key : Int} (h : dropOk T key = true) : AgainFacts T key (putT (dropT T key) key) := by
  have F := drop_facts h
  obtain ⟨k, D⟩ := drop_says h
  have hU : dropT T key = putAt T k (-2) := D.eq.1
  have hput := F.put
  have P := put_says hput
  have hH := put_has hput
  have hpl := (putOk_parts hput).1
  obtain ⟨j, hj, e1, e2, e3⟩ := place_yes hpl
  have eV : putT (dropT T key) key = putAt (dropT T key) (placeI (dropT T key) key).toNat key := by simp [putT, hput]
  obtain ⟨⟨l1, l2⟩, _⟩ := valid_facts D.val
  have hkey : inB key 0 99 = true := inB_true D.key0
  have hh := homeN_lt D.val key
  obtain ⟨a1, a2⟩ := step_away hh D.lt
  have hnu : ∀ i, nth (dropT T key).zs i = if i = k then -2 else nth T.zs i := fun i => by rw [hU]; exact nth_set D.lt _ i
  have hhU : homeN (dropT T key) key = homeN T key := by rw [hU, putAt_home]
  have hsU : ∀ a i, stepS (dropT T key) a i = stepS T a i := fun a i => by rw [hU, putAt_step]
  have hlU : (dropT T key).zs.length = T.zs.length := F.len
  -- the steps to the key in T
  have hT := (found_iff D.val a2 (by rw [a1]; exact D.here) D.key0.1).1 (by rw [D.find.2]; omega)
  have hg := (valid_facts D.val).2.2.2
  have hne : ∀ i, i < (k + T.zs.length - homeN T key) % T.zs.length → nth T.zs (stepS T (homeN T key) i) ≠ key := fun i hi e => by
    have := hg.inj (stepS_lt l1 _ _) D.lt (e.trans D.here.symm) (by rw [e]; exact D.key0.1)
    have := step_inj hh (by omega) a2 (this.trans a1.symm)
    omega
  have hvT := (find_at (T := T) (key := key) a2 (fun i hi => stop_is (hT i hi) (hne i hi)) (by rw [a1]; exact D.here) D.key0.1).1
  have hj0 : j ≤ (k + T.zs.length - homeN T key) % T.zs.length := Nat.not_lt.1 fun hlt => by
    have := e3 _ hlt
    rw [hhU, hsU, a1, hnu, if_pos rfl] at this
    omega
  rw [hhU, hsU] at e1 e2
  have em : (placeI (dropT T key) key).toNat = stepS T (homeN T key) j := by rw [e1]; rfl
  rw [em] at eV
  have hml := stepS_lt (T := T) l1 (homeN T key) j
  have hnv : ∀ i, nth (putT (dropT T key) key).zs i = if i = stepS T (homeN T key) j then key else nth (dropT T key).zs i := fun i => by
    rw [eV]
    exact nth_set (by rw [hlU]; exact hml) key i
  have hhV : homeN (putT (dropT T key) key) key = homeN T key := by rw [eV, putAt_home, hhU]
  have hsV : ∀ a i, stepS (putT (dropT T key) key) a i = stepS T a i := fun a i => by rw [eV, putAt_step, hsU]
  have hlV : (putT (dropT T key) key).zs.length = T.zs.length := by rw [eV, putAt_len, hlU]
  have hvV := (find_at (T := putT (dropT T key) key) (key := key) (j := j) (by rw [hlV]; omega) (fun i hi => by
    have h3 := e3 i hi
    rw [hhU, hsU] at h3
    have hnei : stepS T (homeN T key) i ≠ stepS T (homeN T key) j := fun e => by
      have := step_inj hh (by omega) (by omega) e
      omega
    refine stop_is ?_ ?_
    · rw [hhV, hsV, hnv, if_neg hnei]
      omega
    · rw [hhV, hsV, hnv, if_neg hnei, hnu]
      split
      · have := D.key0; omega
      · exact hne i (by omega)) (by rw [hhV, hsV, hnv, if_pos rfl]) D.key0.1).1
  have vV : validB (putT (dropT T key) key) = true := (sound_all.1 F.snd2).1
  refine ⟨hput, ?_, F.snd2, ?_⟩
  · rw [visOf, visOf, if_pos (by rw [vV, hkey]; rfl), if_pos (by rw [D.val, hkey]; rfl), hvT, hvV]
    omega
  · refine sortU_same fun x h0 h9 => ?_
    rw [(clean_keys D.snd).2.2 x h0 h9, (clean_keys F.snd2).2.2 x h0 h9]
    constructor
    · intro hm
      obtain ⟨i, hi, e⟩ := mem_nth hm
      by_cases hik : i = k
      · subst hik
        have : x = key := e.symm.trans D.here
        subst this
        obtain ⟨i2, h2, e2⟩ := hH.1
        have hm2 := nth_mem (zs := (putT (dropT T x) x).zs) (i := i2) (by rw [hlV, ← hlU]; exact h2)
        rw [e2] at hm2
        exact hm2
      · have h3 : nth (dropT T key).zs i = x := by rw [hnu, if_neg hik, e]
        have := hH.2 i (by rw [hlU]; exact hi) (by rw [h3]; exact h0)
        rw [h3] at this
        rw [← this]; exact nth_mem (by rw [hlV]; exact hi)
    · intro hm
      obtain ⟨i, hi, e⟩ := mem_nth hm
      rw [hlV] at hi
      rw [hnv] at e
      split at e
      · subst e; rw [← D.here]; exact nth_mem D.lt
      · rw [hnu] at e
        split at e
        · omega
        · rw [← e]; exact nth_mem hi

end Go.Proofs.YtpncpeokdcolpaaGreatDoor

namespace Go.Proofs.YtpncpeokdcolpaaGreatDoor

/-- The key that is on its way after d steps, and how far it has come. -/
def cm (T : Tab) (key : Int) : Nat → Int × Nat
  | 0 => (key, 0)
  | d + 1 => if aheadB T (stepS T (homeN T key) d) (cm T key d).1 (cm T key d).2 then ((cm T key d).1, (cm T key d).2 + 1) else (nth T.zs (stepS T (homeN T key) d), awN T T.zs (stepS T (homeN T key) d) + 1)
/-- The slots, the keys that have settled and those that have given way. -/
def outF (T : Tab) (key : Int) : Nat → List Int
  | 0 => T.zs
  | d + 1 => if aheadB T (stepS T (homeN T key) d) (cm T key d).1 (cm T key d).2 then outF T key d else (outF T key d).set (stepS T (homeN T key) d) (cm T key d).1
def setF (T : Tab) (key : Int) : Nat → List Int
  | 0 => []
  | d + 1 => if aheadB T (stepS T (homeN T key) d) (cm T key d).1 (cm T key d).2 then setF T key d else setF T key d ++ [(cm T key d).1]
def movF (T : Tab) (key : Int) : Nat → List Int
  | 0 => []
  | d + 1 => if aheadB T (stepS T (homeN T key) d) (cm T key d).1 (cm T key d).2 then movF T key d else movF T key d ++ [nth T.zs (stepS T (homeN T key) d)]
/-- The first free slot. -/
def endF (T : Tab) (key : Int) : Nat := goN (fun d => nth T.zs (stepS T (homeN T key) d) == -1) T.zs.length
def fputZ (T : Tab) (key : Int) : List Int := (outF T key (endF T key)).set (stepS T (homeN T key) (endF T key)) (cm T key (endF T key)).1
def fputL (T : Tab) (key : Int) : List Int := movF T key (endF T key)

theorem set_mov (T : Tab) (key : Int) (d : Nat) : setF T key d ++ [(cm T key d).1] = key :: movF T key d := by
  induction d with
  | zero => rfl
  | succ d ih =>
    simp only [setF, cm, movF]
    split
    · exact ih
    · rw [ih]; rfl
theorem outF_len (T : Tab) (key : Int) (d : Nat) : (outF T key d).length = T.zs.length := by
  induction d with
  | zero => rfl
  | succ d ih => simp only [outF]; split <;> simp [ih]
theorem setF_len (T : Tab) (key : Int) (d : Nat) : (setF T key d).length ≤ d := by
  induction d with
  | zero => simp [setF]
  | succ d ih =>
    simp only [setF]
    split
    · omega
    · simp; omega
theorem movF_len (T : Tab) (key : Int) (d : Nat) : (movF T key d).length ≤ d := by
  induction d with
  | zero => simp [movF]
  | succ d ih =>
    simp only [movF]
    split
    · omega
    · simp; omega
theorem outF_at {T : Tab} {key : Int} (hv : validB T = true) : ∀ d m, d ≤ m → m < T.zs.length → nth (outF T key d) (stepS T (homeN T key) m) = nth T.zs (stepS T (homeN T key) m) := by
  have hh := homeN_lt hv key
  have l1 : 1 ≤ T.zs.length := (valid_facts hv).1.1
  intro d
  induction d with
  | zero => intro m _ _; rfl
  | succ d ih =>
    intro m hm hn
    simp only [outF]
    split
    · exact ih m (by omega) hn
    · rw [nth_set (by rw [outF_len]; exact stepS_lt l1 _ _), if_neg, ih m (by omega) hn]
      intro e
      have := step_inj hh hn (show d < T.zs.length by omega) e
      omega
theorem cm_away {T : Tab} {key : Int} (hv : validB T = true) (d : Nat) : (cm T key d).2 ≤ 16 + d := by
  have l := (valid_facts hv).1
  have hh := homeN_lt hv key
  induction d with
  | zero => simp [cm]
  | succ d ih =>
    simp only [cm]
    split
    · simp; omega
    · have := dst_lt (homeN_lt hv (nth T.zs (stepS T (homeN T key) d))) (stepS_lt (T := T) l.1 (homeN T key) d)
      simp only [awN]; omega

theorem endF_lt {T : Tab} {key : Int} (hv : validB T = true) (hf : -1 ∈ T.zs) : endF T key < T.zs.length ∧ nth T.zs (stepS T (homeN T key) (endF T key)) = -1 := by
  obtain ⟨d, hd, e⟩ := free_step (homeN_lt hv key) hf
  have : endF T key < T.zs.length := by
    refine Nat.lt_of_not_le fun hn => ?_
    have hle := goN_le (fun d => nth T.zs (stepS T (homeN T key) d) == -1) T.zs.length
    have := goN_free (p := fun d => nth T.zs (stepS T (homeN T key) d) == -1) (n := T.zs.length) (j := d) (by unfold endF at hn; omega)
    simp [e] at this
  exact ⟨this, by have := goN_stop (p := fun d => nth T.zs (stepS T (homeN T key) d) == -1) this; simpa [endF] using this⟩
theorem endF_before {T : Tab} {key : Int} {d : Nat} (hd : d < endF T key) : nth T.zs (stepS T (homeN T key) d) ≠ -1 := by
  have := goN_free hd
  simpa using this
theorem plain_key {T : Tab} (hp : plainB T = true) {i : Nat} (hi : i < T.zs.length) (h : nth T.zs i ≠ -1) : 0 ≤ nth T.zs i ∧ nth T.zs i ≤ 99 := by
  obtain ⟨_, hv, ht⟩ := plain_parts hp
  have := valid_slot hv hi
  have := ht i hi
  omega

/-- What may be asked of the slots on the way: they are slots of a table in which the key on its way is not. -/
structure OnWay (T : Tab) (key : Int) (d : Nat) : Prop where
  good : Good (outF T key d) T.zs.length
  k0 : 0 ≤ (cm T key d).1
  k9 : (cm T key d).1 ≤ 99
  no : ∀ i, i < T.zs.length → nth (outF T key d) i ≠ (cm T key d).1
  fr : ∀ i, i < T.zs.length → (nth (outF T key d) i = -1 ↔ nth T.zs i = -1)
  lo : ∀ i, i < T.zs.length → (nth (outF T key d) i < 0 ↔ nth T.zs i < 0)
theorem good_set {zs : List Int} {n k : Nat} {x : Int} (h : Good zs n) (hn : n = zs.length) (hk : k < n) (h0 : 0 ≤ x) (h9 : x ≤ 99) (hx : ∀ i, i < n → nth zs i ≠ x) : Good (zs.set k x) n := by
  intro i hi
  rw [nth_set (by omega)]
  refine ⟨?_, fun hi0 j hj => ?_⟩
  · split
    · exact inB_true ⟨by omega, h9⟩
    · exact (h i hi).1
  · rw [nth_set (by omega)]
    split
    · rename_i e
      rw [if_neg (by omega)]
      exact (hx i hi).symm
    · rename_i e
      split
      · exact hx j (by omega)
      · rename_i e2
        rw [if_neg e2] at hi0
        exact (h i hi).2 hi0 j hj
theorem on_way {T : Tab} {key : Int} (hp : plainB T = true) (hk : 0 ≤ key ∧ key ≤ 99) (hno : ∀ i, i < T.zs.length → nth T.zs i ≠ key) (hf : -1 ∈ T.zs) : ∀ d, d ≤ endF T key → OnWay T key d := by
  obtain ⟨_, hv, ht⟩ := plain_parts hp
  obtain ⟨⟨l1, l2⟩, _, _, hg⟩ := valid_facts hv
  have hel := (endF_lt (key := key) hv hf).1
  intro d
  induction d with
  | zero => intro _; exact ⟨hg, hk.1, hk.2, hno, fun _ _ => Iff.rfl, fun _ _ => Iff.rfl⟩
  | succ d ih =>
    intro hd
    have O := ih (by omega)
    have hs := stepS_lt (T := T) l1 (homeN T key) d
    have hne := endF_before (T := T) (key := key) (d := d) (by omega)
    obtain ⟨k0, k9⟩ := plain_key hp hs hne
    have hat := outF_at (key := key) hv d d (Nat.le_refl _) (by omega)
    by_cases ha : aheadB T (stepS T (homeN T key) d) (cm T key d).1 (cm T key d).2 = true
    · have e1 : outF T key (d + 1) = outF T key d := by simp only [outF]; rw [if_pos ha]
      have e2 : (cm T key (d + 1)).1 = (cm T key d).1 := by simp only [cm]; rw [if_pos ha]
      exact ⟨by rw [e1]; exact O.good, by rw [e2]; exact O.k0, by rw [e2]; exact O.k9, by rw [e1, e2]; exact O.no, by rw [e1]; exact O.fr, by rw [e1]; exact O.lo⟩
    · have e1 : outF T key (d + 1) = (outF T key d).set (stepS T (homeN T key) d) (cm T key d).1 := by simp only [outF]; rw [if_neg ha]
      have e2 : (cm T key (d + 1)).1 = nth T.zs (stepS T (homeN T key) d) := by simp only [cm]; rw [if_neg ha]
      have hnth : ∀ i, nth (outF T key (d + 1)) i = if i = stepS T (homeN T key) d then (cm T key d).1 else nth (outF T key d) i := fun i => by rw [e1]; exact nth_set (by rw [outF_len]; exact hs) _ _
      have c0 := O.k0
      refine ⟨by rw [e1]; exact good_set O.good (outF_len T key d).symm hs O.k0 O.k9 O.no, by rw [e2]; exact k0, by rw [e2]; exact k9, fun i hi => ?_, fun i hi => ?_, fun i hi => ?_⟩
      · rw [hnth, e2]
        split
        · intro e
          exact O.no _ hs (by rw [hat]; exact e.symm)
        · rename_i hi2
          intro e
          exact hi2 (O.good.inj hi hs (by rw [hat]; exact e) (by rw [e]; exact k0))
      · rw [hnth]
        split
        · rename_i e; subst e
          omega
        · exact O.fr i hi
      · rw [hnth]
        split
        · rename_i e; subst e
          omega
        · exact O.lo i hi

/-- The table behind d steps. -/
theorem way_valid {T : Tab} {key : Int} (hv : validB T = true) {d : Nat} (O : OnWay T key d) : validB (tab T (outF T key d)) = true := by
  refine validB_iff.2 ⟨?_, ?_⟩
  · have := (validB_iff.1 hv).1
    show headB (outF T key d).length T.t T.p = true
    rw [outF_len]; exact this
  · show Good (outF T key d) (outF T key d).length
    rw [outF_len]; exact O.good
/-- How far from home a key lies it lies in every table of that head. -/
theorem ahead_same {T : Tab} {zs : List Int} (hv : validB T = true) (hv2 : validB (tab T zs) = true) (hl : zs.length = T.zs.length) {s : Nat} (hs : s < T.zs.length) (e : nth zs s = nth T.zs s) (h0 : 0 ≤ nth T.zs s) (key : Int) (d : Nat) :
    aheadB (tab T zs) s key d = aheadB T s key d := by
  have h1 := awN_of hv2 hl hs (by rw [e]; exact h0)
  have h2 := awN_of (T := T) (zs := T.zs) hv rfl hs h0
  have h2 : awayOf T s = awN T T.zs s := h2
  have h3 : awN T zs s = awN T T.zs s := by unfold awN; rw [e]
  unfold aheadB
  rw [h1, h2, h3]
  show (_ || _ && decide (nth zs s < key)) = _
  rw [e]

/-- A fair table into which a key may be put. -/
def fputOk (T : Tab) (key : Int) : Bool := fairB T && decide (2 ≤ countF T) && inB key 0 99 && decide (findI T key < 0)
def fputT (T : Tab) (key : Int) : Tab := if fputOk T key then tab T (fputZ T key) else ⟨0, 0, []⟩
def fswaps (T : Tab) (key : Int) : List Int := if fputOk T key then fputL T key else []

structure FputSays (T : Tab) (key : Int) : Prop where
  plain : plainB T = true
  val : validB T = true
  free : -1 ∈ T.zs
  key0 : 0 ≤ key ∧ key ≤ 99
  no : ∀ i, i < T.zs.length → nth T.zs i ≠ key
  elt : endF T key < T.zs.length
  eat : nth T.zs (stepS T (homeN T key) (endF T key)) = -1
  way : ∀ d, d ≤ endF T key → OnWay T key d
  val2 : validB (tab T (fputZ T key)) = true
theorem fput_says {T : Tab} {key : Int} (h : fputOk T key = true) : FputSays T key := by
  simp only [fputOk, Bool.and_eq_true, decide_eq_true_eq] at h
  obtain ⟨⟨⟨hfa, hc⟩, hk⟩, hn⟩ := h
  have hk := inB_iff.1 hk
  obtain ⟨hp, hf, _⟩ := fair_parts hfa
  obtain ⟨hs, hv, ht⟩ := plain_parts hp
  obtain ⟨⟨l1, l2⟩, _⟩ := valid_facts hv
  have hno : ∀ i, i < T.zs.length → nth T.zs i ≠ key := fun i hi e => by
    have := (sound_all.1 hs).2 i hi (by rw [e]; exact hk.1)
    rw [e] at this; omega
  obtain ⟨e1, e2⟩ := endF_lt (key := key) hv hf
  have W := on_way hp hk hno hf
  refine ⟨hp, hv, hf, hk, hno, e1, e2, W, validB_iff.2 ⟨?_, ?_⟩⟩
  · have := (validB_iff.1 hv).1
    show headB (fputZ T key).length T.t T.p = true
    unfold fputZ
    rw [List.length_set, outF_len]; exact this
  · have O := W _ (Nat.le_refl _)
    show Good (fputZ T key) (fputZ T key).length
    have hl : (fputZ T key).length = T.zs.length := by unfold fputZ; rw [List.length_set, outF_len]
    rw [hl]
    exact good_set O.good (outF_len T key _).symm (stepS_lt l1 _ _) O.k0 O.k9 O.no

/-- Dropping from a fair table: keys behind the slot come one slot nearer. -/
def nearE (T : Tab) (k : Nat) : Nat := goN (fun d => decide (awayOf T (stepS T (k + 1) d) ≤ 0)) T.zs.length
def nearZ (T : Tab) (k : Nat) : Nat → List Int
  | 0 => T.zs
  | d + 1 => (nearZ T k d).set (stepS T k d) (nth T.zs (stepS T k (d + 1)))
def fdropZ (T : Tab) (k : Nat) : List Int := (nearZ T k (nearE T k)).set (stepS T k (nearE T k)) (-1)
def fdropOk (T : Tab) (key : Int) : Bool := decide (0 ≤ findOf T key) && fairB T
def fdropT (T : Tab) (key : Int) : Tab := if fdropOk T key then tab T (fdropZ T (findOf T key).toNat) else ⟨0, 0, []⟩
theorem nearZ_len (T : Tab) (k d : Nat) : (nearZ T k d).length = T.zs.length := by
  induction d with
  | zero => rfl
  | succ d ih => simp [nearZ, ih]
theorem step_one (T : Tab) (k d : Nat) : stepS T (k + 1) d = stepS T k (d + 1) := by unfold stepS; rw [Nat.add_right_comm, Nat.add_assoc]
theorem nearE_lt {T : Tab} {k : Nat} (hk : k < T.zs.length) (hf : -1 ∈ T.zs) (h0 : 0 ≤ nth T.zs k) : nearE T k + 1 < T.zs.length ∧ awayOf T (stepS T k (nearE T k + 1)) ≤ 0 := by
  obtain ⟨d, hd, e⟩ := free_step hk hf
  have hd0 : d ≠ 0 := fun e0 => by
    subst e0
    have : stepS T k 0 = k := by unfold stepS; exact Nat.mod_eq_of_lt hk
    rw [this] at e; omega
  obtain ⟨d, rfl⟩ : ∃ m, d = m + 1 := ⟨d - 1, by omega⟩
  have hp : decide (awayOf T (stepS T (k + 1) d) ≤ 0) = true := by rw [step_one, free_away (by omega)]; simp
  have hlt : nearE T k ≤ d := by
    refine Nat.le_of_not_lt fun hn => ?_
    have := goN_free (p := fun d => decide (awayOf T (stepS T (k + 1) d) ≤ 0)) (n := T.zs.length) hn
    rw [hp] at this; cases this
  have h2 := goN_stop (p := fun d => decide (awayOf T (stepS T (k + 1) d) ≤ 0)) (n := T.zs.length) (show nearE T k < T.zs.length by omega)
  refine ⟨by omega, ?_⟩
  rw [← step_one]
  simpa [nearE] using h2
theorem nearE_before {T : Tab} {k d : Nat} (hd : d < nearE T k) : 0 < awayOf T (stepS T k (d + 1)) := by
  have := goN_free hd
  rw [step_one] at this
  simpa using this
theorem nearZ_at {T : Tab} {k : Nat} (hk : k < T.zs.length) : ∀ d m, d ≤ m → m < T.zs.length → nth (nearZ T k d) (stepS T k m) = nth T.zs (stepS T k m) := by
  intro d
  induction d with
  | zero => intro m _ _; rfl
  | succ d ih =>
    intro m hm hn
    simp only [nearZ]
    rw [nth_set (by rw [nearZ_len]; exact stepS_lt (by omega) _ _), if_neg, ih m (by omega) hn]
    intro e
    have := step_inj hk hn (show d < T.zs.length by omega) e
    omega

end Go.Proofs.YtpncpeokdcolpaaGreatDoor

namespace Go.Proofs.YtpncpeokdcolpaaGreatDoor

/-- One key of a list. -/
def stepF (T : Tab) (zs : List Int) (x : Int) : Option (List Int) :=
  if 0 ≤ findI (tab T zs) x then some zs else if fputOk (tab T zs) x then some (fputZ (tab T zs) x) else none
def fallTo (T : Tab) (ks : List Int) : Nat → Option (List Int)
  | 0 => some T.zs
  | j + 1 => (fallTo T ks j).bind fun zs => stepF T zs (nth ks j)
def fallOk (T : Tab) (ks : List Int) : Bool := fairB T && keysB ks && (fallTo T ks ks.length).isSome
def fallT (T : Tab) (ks : List Int) : Tab := if fallOk T ks then tab T ((fallTo T ks ks.length).getD []) else ⟨0, 0, []⟩

theorem fputZ_len (T : Tab) (key : Int) : (fputZ T key).length = T.zs.length := by unfold fputZ; rw [List.length_set, outF_len]
theorem stepF_len {T : Tab} {zs zs' : List Int} {x : Int} (h : stepF T zs x = some zs') : zs'.length = zs.length := by
  unfold stepF at h
  split at h
  · cases h; rfl
  · split at h
    · cases h; exact fputZ_len _ _
    · cases h
theorem stepF_valid {T : Tab} {zs zs' : List Int} {x : Int} (hv : validB (tab T zs) = true) (h : stepF T zs x = some zs') : validB (tab T zs') = true := by
  unfold stepF at h
  split at h
  · cases h; exact hv
  · split at h
    · rename_i hok
      cases h; exact (fput_says hok).val2
    · cases h
theorem fallTo_len {T : Tab} {ks : List Int} : ∀ {j : Nat} {zs : List Int}, fallTo T ks j = some zs → zs.length = T.zs.length := by
  intro j
  induction j with
  | zero => intro zs h; cases h; rfl
  | succ j ih =>
    intro zs h
    simp only [fallTo] at h
    cases hj : fallTo T ks j with
    | none => rw [hj] at h; cases h
    | some z => rw [hj] at h; rw [stepF_len h, ih hj]
theorem fallTo_valid {T : Tab} {ks : List Int} (hv : validB T = true) : ∀ {j : Nat} {zs : List Int}, fallTo T ks j = some zs → validB (tab T zs) = true := by
  intro j
  induction j with
  | zero => intro zs h; cases h; exact hv
  | succ j ih =>
    intro zs h
    simp only [fallTo] at h
    cases hj : fallTo T ks j with
    | none => rw [hj] at h; cases h
    | some z => rw [hj] at h; exact stepF_valid (ih hj) h
theorem fallTo_none {T : Tab} {ks : List Int} {j m : Nat} (h : fallTo T ks j = none) (hm : j ≤ m) : fallTo T ks m = none := by
  induction m with
  | zero => obtain rfl : j = 0 := by omega
            exact h
  | succ m ih =>
    by_cases e : j = m + 1
    · subst e; exact h
    · simp only [fallTo]
      rw [ih (by omega)]; rfl
theorem fall_not {T : Tab} {ks : List Int} {j : Nat} (hj : j ≤ ks.length) (h : fallTo T ks j = none) : fallOk T ks = false := by
  unfold fallOk
  rw [fallTo_none h hj]; simp

/-- A key more, a free slot less. -/
theorem cnt_less {p : Int → Bool} {zs : List Int} {k : Nat} {x : Int} (hk : k < zs.length) (h1 : p (nth zs k) = true) (h2 : p x = false) : cnt p (zs.set k x) zs.length + 1 = cnt p zs zs.length := by
  unfold cnt
  have : (zs.set k x).take zs.length = zs.set k x := by rw [← List.length_set (as := zs) (i := k) (a := x)]; exact List.take_length
  rw [this, List.take_length, List.countP_set hk]
  rw [nth, List.getElem?_eq_getElem hk] at h1
  have h1 : p zs[k] = true := h1
  have : 0 < zs.countP p := List.countP_pos_iff.2 ⟨zs[k], List.getElem_mem hk, h1⟩
  rw [h1, h2]
  simp; omega
theorem cnt_same {p : Int → Bool} {xs ys : List Int} (hl : xs.length = ys.length) (h : ∀ i, i < xs.length → p (nth xs i) = p (nth ys i)) : cnt p xs xs.length = cnt p ys ys.length := by
  unfold cnt
  rw [List.take_length, List.take_length, List.countP_eq_length_filter, List.countP_eq_length_filter]
  have : xs.map p = ys.map p := by
    refine List.ext_getElem (by simpa using hl) fun i h1 h2 => ?_
    simp only [List.length_map] at h1 h2
    have := h i h1
    simpa [nth, h1, h2] using this
  have e : ∀ zs : List Int, (zs.filter p).length = (zs.map p).countP id := fun zs => by
    induction zs with
    | nil => rfl
    | cons z zs ih => simp only [List.filter_cons, List.map_cons, List.countP_cons, id]; split <;> simp_all
  rw [e, e, this]
theorem fput_count {T : Tab} {key : Int} (h : fputOk T key = true) : cnt freeP (fputZ T key) T.zs.length + 1 = cnt freeP T.zs T.zs.length := by
  have F := fput_says h
  have O := F.way _ (Nat.le_refl _)
  obtain ⟨⟨l1, _⟩, _⟩ := valid_facts F.val
  have hs := stepS_lt (T := T) l1 (homeN T key) (endF T key)
  have hl := outF_len T key (endF T key)
  have e1 : cnt freeP (outF T key (endF T key)) (outF T key (endF T key)).length = cnt freeP T.zs T.zs.length := cnt_same hl fun i hi => by
    rw [hl] at hi
    have := O.fr i hi
    unfold freeP
    by_cases c : nth T.zs i = -1
    · rw [c, this.2 c]
    · rw [beq_eq_false_iff_ne.2 c, beq_eq_false_iff_ne.2 fun c2 => c (this.1 c2)]
  have e2 := cnt_less (p := freeP) (x := (cm T key (endF T key)).1) (zs := outF T key (endF T key)) (k := stepS T (homeN T key) (endF T key)) (by rw [hl]; exact hs) (by
    rw [outF_at F.val _ _ (Nat.le_refl _) F.elt, F.eat]; rfl) (by have := O.k0; unfold freeP; exact beq_eq_false_iff_ne.2 (by omega))
  rw [e1, hl] at e2
  exact e2
/-- What the slots hold behind a put: what they held, and the key. -/
theorem way_from {T : Tab} {key : Int} (l1 : 1 ≤ T.zs.length) : ∀ d, (∀ i, i < T.zs.length → nth (outF T key d) i = key ∨ nth (outF T key d) i ∈ T.zs) ∧ ((cm T key d).1 = key ∨ (cm T key d).1 ∈ T.zs) := by
  intro d
  induction d with
  | zero => exact ⟨fun i hi => .inr (nth_mem hi), .inl rfl⟩
  | succ d ih =>
    have hs := stepS_lt (T := T) l1 (homeN T key) d
    by_cases ha : aheadB T (stepS T (homeN T key) d) (cm T key d).1 (cm T key d).2 = true
    · simp only [outF, cm]
      rw [if_pos ha, if_pos ha]
      exact ih
    · simp only [outF, cm]
      rw [if_neg ha, if_neg ha]
      refine ⟨fun i hi => ?_, .inr (nth_mem hs)⟩
      rw [nth_set (by rw [outF_len]; exact hs)]
      split
      · exact ih.2
      · exact ih.1 i hi
theorem fput_from {T : Tab} {key : Int} (l1 : 1 ≤ T.zs.length) (i : Nat) (hi : i < T.zs.length) : nth (fputZ T key) i = key ∨ nth (fputZ T key) i ∈ T.zs := by
  have hs := stepS_lt (T := T) l1 (homeN T key) (endF T key)
  have W := way_from (key := key) l1 (endF T key)
  unfold fputZ
  rw [nth_set (by rw [outF_len]; exact hs)]
  split
  · exact W.2
  · exact W.1 i hi

/-- The fair table of some keys, each once: where they are as many as there are slots there is none. -/
theorem fall_full {T : Tab} {ks : List Int} (hv : validB T = true) (he : ∀ i, i < T.zs.length → nth T.zs i = -1) (hk : ∀ i j, i < ks.length → j < ks.length → nth ks i = nth ks j → i = j) (h0 : ∀ i, i < ks.length → 0 ≤ nth ks i)
    (hl : T.zs.length ≤ ks.length) : fallOk T ks = false := by
  have l1 : 1 ≤ T.zs.length := (valid_facts hv).1.1
  have key : ∀ j, j ≤ ks.length → ∀ zs, fallTo T ks j = some zs → cnt freeP zs T.zs.length + j = T.zs.length ∧ 1 ≤ cnt freeP zs T.zs.length ∧ ∀ i, i < T.zs.length → nth zs i = -1 ∨ ∃ m, m < j ∧ nth zs i = nth ks m := by
    intro j
    induction j with
    | zero =>
      intro _ zs h
      cases h
      have : cnt freeP T.zs T.zs.length = T.zs.length := by
        unfold cnt
        rw [List.take_length, List.countP_eq_length]
        intro x hx
        obtain ⟨i, hi, e⟩ := mem_nth hx
        rw [← e, he i hi]; rfl
      exact ⟨by omega, by omega, fun i hi => .inl (he i hi)⟩
    | succ j ih =>
      intro hj zs h
      simp only [fallTo] at h
      cases hz : fallTo T ks j with
      | none => rw [hz] at h; cases h
      | some z =>
        rw [hz] at h
        obtain ⟨c1, c2, c3⟩ := ih (by omega) z hz
        have hzl := fallTo_len hz
        have hzv := fallTo_valid hv hz
        have hno : ∀ i, i < z.length → nth z i ≠ nth ks j := fun i hi e => by
          rcases c3 i (by omega) with c | ⟨m, hm, c⟩
          · have := h0 j (by omega); omega
          · have := hk m j (by omega) (by omega) (by rw [← c, e]); omega
        have hnf : ¬ 0 ≤ findI (tab T z) (nth ks j) := by
          rw [none_find hzv fun i hi => hno i hi]; omega
        have h : stepF T z (nth ks j) = some zs := h
        unfold stepF at h
        rw [if_neg hnf] at h
        split at h
        · rename_i hok
          cases h
          have hc := fput_count hok
          have hcf : 2 ≤ countF (tab T z) := by
            have h2 := hok
            simp only [fputOk, Bool.and_eq_true, decide_eq_true_eq] at h2
            exact h2.1.1.2
          have hl2 : (tab T z).zs.length = T.zs.length := hzl
          unfold countF at hcf
          rw [if_pos hzv] at hcf
          rw [hl2] at hc hcf
          have e3 : (tab T z).zs = z := rfl
          rw [e3] at hc hcf
          refine ⟨by omega, by omega, fun i hi => ?_⟩
          rcases fput_from (T := tab T z) (key := nth ks j) (by rw [hl2]; exact l1) i (by rw [hl2]; exact hi) with c | c
          · exact .inr ⟨j, by omega, c⟩
          · obtain ⟨q, hq, e⟩ := mem_nth c
            have hq : q < z.length := hq
            have e : nth z q = _ := e
            rcases c3 q (by omega) with c | ⟨m, hm, c⟩
            · exact .inl (by rw [← e]; exact c)
            · exact .inr ⟨m, by omega, by rw [← e]; exact c⟩
        · cases h
  cases hz : fallTo T ks T.zs.length with
  | none => exact fall_not hl hz
  | some z => have := key _ hl z hz; omega

end Go.Proofs.YtpncpeokdcolpaaGreatDoor

namespace Go.Proofs.YtpncpeokdcolpaaGreatDoor

theorem awayOf_bounds' (T : Tab) (s : Nat) (hl : T.zs.length ≤ 16) : -1 ≤ awayOf T (s : Int) ∧ awayOf T (s : Int) ≤ 15 := by
  unfold awayOf
  split
  · rename_i h
    simp only [Bool.and_eq_true, decide_eq_true_eq] at h
    obtain ⟨⟨hv, _⟩, _⟩ := h
    obtain ⟨⟨l1, _⟩, _⟩ := valid_facts hv
    have h1 := Int.emod_nonneg ((s : Int) - homeI T (nth T.zs (s : Int).toNat)) (b := (T.zs.length : Int)) (by omega)
    have h2 := Int.emod_lt_of_pos ((s : Int) - homeI T (nth T.zs (s : Int).toNat)) (b := (T.zs.length : Int)) (by omega)
    omega
  · omega

/-- Along a fair table homes ascend, and keys of one home. -/
theorem fair_runs {T : Tab} (hf : fairB T = true) {i j : Nat} (hi : i < T.zs.length) (hj : j = (i + 1) % T.zs.length) (hb : 0 ≤ awayOf T (j : Int)) :
    (awayOf T (i : Int) = -1 ∧ awayOf T (j : Int) = 0) ∨ (0 ≤ awayOf T (i : Int) ∧ awayOf T (j : Int) ≤ awayOf T (i : Int)) ∨ (0 ≤ awayOf T (i : Int) ∧ awayOf T (j : Int) = awayOf T (i : Int) + 1 ∧ nth T.zs i < nth T.zs j) := by
  obtain ⟨hp, hm, hto⟩ := fair_parts hf
  obtain ⟨hs, hv, _⟩ := plain_parts hp
  obtain ⟨⟨l1, l2⟩, _⟩ := valid_facts hv
  have hjl : j < T.zs.length := by rw [hj]; exact Nat.mod_lt _ (by omega)
  have hbi := (awayOf_bounds' T i l2).1
  have hy : 0 ≤ nth T.zs j := by
    refine Int.not_lt.1 fun h => ?_
    rw [free_away h] at hb; omega
  obtain ⟨a1, a2, a3⟩ := away_self hv hjl hy
  have hsl := fairTo_iff.1 hto j hjl
  have hn : ¬ nth T.zs j < 0 := by omega
  simp only [slotB, hn, decide_false, Bool.false_or] at hsl
  by_cases h0 : awN T T.zs j = 0
  · rw [a1, h0]
    by_cases hi0 : awayOf T (i : Int) < 0
    · exact .inl ⟨by omega, rfl⟩
    · exact .inr (.inl ⟨by omega, by omega⟩)
  · have h1 := wayB_iff.1 hsl (awN T T.zs j - 1) (by omega)
    have hh := homeN_lt hv (nth T.zs j)
    have hst : stepS T (homeN T (nth T.zs j)) (awN T T.zs j - 1) = i := by
      have h3 : (stepS T (homeN T (nth T.zs j)) (awN T T.zs j - 1) + 1) % T.zs.length = (i + 1) % T.zs.length := by
        rw [← hj]
        conv => rhs; rw [← a3]
        unfold stepS
        rw [Nat.mod_add_mod]
        congr 1
        omega
      have h4 := stepS_lt (T := T) l1 (homeN T (nth T.zs j)) (awN T T.zs j - 1)
      generalize stepS T (homeN T (nth T.zs j)) (awN T T.zs j - 1) = s at h3 h4
      rcases Nat.lt_or_ge (s + 1) T.zs.length with c | c <;> rcases Nat.lt_or_ge (i + 1) T.zs.length with d | d
      · rw [Nat.mod_eq_of_lt c, Nat.mod_eq_of_lt d] at h3; omega
      · rw [Nat.mod_eq_of_lt c, show i + 1 = T.zs.length by omega, Nat.mod_self] at h3; omega
      · rw [Nat.mod_eq_of_lt d, show s + 1 = T.zs.length by omega, Nat.mod_self] at h3; omega
      · omega
    rw [hst] at h1
    unfold aheadB at h1
    simp only [Bool.or_eq_true, Bool.and_eq_true, decide_eq_true_eq, beq_iff_eq] at h1
    rw [a1]
    rcases h1 with h1 | ⟨h1, h2⟩
    · exact .inr (.inl ⟨by omega, by omega⟩)
    · exact .inr (.inr ⟨by omega, by omega, h2⟩)

end Go.Proofs.YtpncpeokdcolpaaGreatDoor

namespace Go.Proofs.YtpncpeokdcolpaaGreatDoor

/-- The first slot on the way whose key gives way (or the free one). -/
def giveN (T : Tab) (key : Int) : Nat := goN (fun d => !aheadB T (stepS T (homeN T key) d) key d) (endF T key)
theorem give_le (T : Tab) (key : Int) : giveN T key ≤ endF T key := goN_le _ _
theorem give_before {T : Tab} {key : Int} : ∀ d, d ≤ giveN T key → cm T key d = (key, d) ∧ outF T key d = T.zs ∧ movF T key d = [] := by
  intro d
  induction d with
  | zero => intro _; exact ⟨rfl, rfl, rfl⟩
  | succ d ih =>
    intro hd
    obtain ⟨e1, e2, e3⟩ := ih (by omega)
    have ha : aheadB T (stepS T (homeN T key) d) key d = true := by
      have := goN_free (p := fun d => !aheadB T (stepS T (homeN T key) d) key d) (n := endF T key) (j := d) (by unfold giveN at hd; omega)
      simpa using this
    simp only [cm, outF, movF]
    rw [e1]
    simp only
    rw [if_pos ha, if_pos ha, if_pos ha, e2, e3]
    exact ⟨rfl, rfl, rfl⟩
theorem step_next6 (T : Tab) (h m : Nat) : stepS T h (m + 1) = (stepS T h m + 1) % T.zs.length := by
  unfold stepS
  rw [Nat.mod_add_mod, Nat.add_assoc]

structure After (T : Tab) (key : Int) (g d : Nat) : Prop where
  com : cm T key d = (nth T.zs (stepS T (homeN T key) (d - 1)), awN T T.zs (stepS T (homeN T key) (d - 1)) + 1)
  mov : movF T key d = (List.range (d - g)).map fun i => nth T.zs (stepS T (homeN T key) (g + i))
  out : ∀ m, g < m → m < d → nth (outF T key d) (stepS T (homeN T key) m) = nth T.zs (stepS T (homeN T key) (m - 1))
theorem give_after {T : Tab} {key : Int} (hfa : fairB T = true) (F : FputSays T key) : ∀ k, giveN T key + 1 + k ≤ endF T key → After T key (giveN T key) (giveN T key + 1 + k) := by
  obtain ⟨⟨l1, l2⟩, _⟩ := valid_facts F.val
  have hh := homeN_lt F.val key
  have hE := F.elt
  intro k
  induction k with
  | zero =>
    intro hk
    obtain ⟨e1, e2, e3⟩ := give_before (T := T) (key := key) (giveN T key) (Nat.le_refl _)
    have ha : aheadB T (stepS T (homeN T key) (giveN T key)) key (giveN T key) = false := by
      have := goN_stop (p := fun d => !aheadB T (stepS T (homeN T key) d) key d) (n := endF T key) (by unfold giveN at hk; omega)
      simpa [giveN] using this
    refine ⟨?_, ?_, fun m hm hm2 => by omega⟩
    · simp only [cm, Nat.add_zero, Nat.add_sub_cancel]
      rw [e1]
      simp only
      rw [ha]
      rfl
    · have e0 : giveN T key + 1 + 0 - giveN T key = 1 := by omega
      rw [e0]
      simp only [movF, Nat.add_zero]
      rw [e1]
      simp only
      rw [ha, e3]
      simp
  | succ k ih =>
    intro hk
    have A := ih (by omega)
    obtain ⟨d, hd⟩ : ∃ d, giveN T key + 1 + k = d := ⟨_, rfl⟩
    rw [hd] at A
    have hk1 : giveN T key + 1 + (k + 1) = d + 1 := by omega
    rw [hk1]
    have hdE : d < endF T key := by omega
    have hgd : giveN T key < d := by omega
    have hs0 := stepS_lt (T := T) l1 (homeN T key) (d - 1)
    have hs1 := stepS_lt (T := T) l1 (homeN T key) d
    have hn : stepS T (homeN T key) d = (stepS T (homeN T key) (d - 1) + 1) % T.zs.length := by
      rw [← step_next6]; congr 1; omega
    have k0 := plain_key F.plain hs0 (endF_before (T := T) (key := key) (d := d - 1) (by omega))
    have k1 := plain_key F.plain hs1 (endF_before (T := T) (key := key) (d := d) (by omega))
    obtain ⟨a1, a2, a3⟩ := away_self F.val hs0 k0.1
    obtain ⟨b1, b2, b3⟩ := away_self F.val hs1 k1.1
    have ha : aheadB T (stepS T (homeN T key) d) (cm T key d).1 (cm T key d).2 = false := by
      rw [A.com]
      have hr := fair_runs hfa hs0 hn (by rw [b1]; omega)
      simp only [aheadB, Bool.or_eq_false_iff, Bool.and_eq_false_iff, decide_eq_false_iff_not, beq_eq_false_iff_ne]
      rw [a1, b1] at hr
      rw [b1]
      omega
    refine ⟨?_, ?_, fun m hm hm2 => ?_⟩
    · simp only [cm, Nat.add_sub_cancel]
      rw [ha]
      rfl
    · have e0 : d + 1 - giveN T key = (d - giveN T key) + 1 := by omega
      rw [e0, List.range_succ, List.map_append, ← A.mov]
      simp only [movF]
      rw [ha]
      simp only [List.map_cons, List.map_nil]
      rw [show giveN T key + (d - giveN T key) = d by omega]
      rfl
    · simp only [outF]
      rw [ha]
      simp only [Bool.false_eq_true, if_false]
      rw [nth_set (by rw [outF_len]; exact hs1)]
      by_cases e : m = d
      · subst e
        rw [if_pos rfl, A.com]
      · rw [if_neg fun h => e (step_inj hh (by omega) (by omega) h)]
        exact A.out m hm (by omega)

theorem fputL_eq {T : Tab} {key : Int} (hfa : fairB T = true) (F : FputSays T key) : fputL T key = (List.range (endF T key - giveN T key)).map fun i => nth T.zs (stepS T (homeN T key) (giveN T key + i)) := by
  unfold fputL
  by_cases h : giveN T key = endF T key
  · rw [← h, (give_before (T := T) (key := key) _ (Nat.le_refl _)).2.2]; simp
  · have := give_le T key
    have A := give_after hfa F (endF T key - giveN T key - 1) (by omega)
    rw [show giveN T key + 1 + (endF T key - giveN T key - 1) = endF T key by omega] at A
    exact A.mov
theorem fputZ_at {T : Tab} {key : Int} (hfa : fairB T = true) (F : FputSays T key) {m : Nat} (h1 : giveN T key < m) (h2 : m ≤ endF T key) : nth (fputZ T key) (stepS T (homeN T key) m) = nth T.zs (stepS T (homeN T key) (m - 1)) := by
  obtain ⟨⟨l1, l2⟩, _⟩ := valid_facts F.val
  have hh := homeN_lt F.val key
  have hE := F.elt
  have A := give_after hfa F (endF T key - giveN T key - 1) (by omega)
  rw [show giveN T key + 1 + (endF T key - giveN T key - 1) = endF T key by omega] at A
  unfold fputZ
  rw [nth_set (by rw [outF_len]; exact stepS_lt l1 _ _)]
  by_cases e : m = endF T key
  · subst e
    rw [if_pos rfl, A.com]
  · rw [if_neg fun h => e (step_inj hh (by omega) (by omega) h)]
    exact A.out m h1 (by omega)
theorem fputZ_full {T : Tab} {key : Int} (F : FputSays T key) {i : Nat} (hi : i < T.zs.length) (h : nth T.zs i ≠ -1) : nth (fputZ T key) i ≠ -1 := by
  obtain ⟨⟨l1, l2⟩, _⟩ := valid_facts F.val
  have O := F.way _ (Nat.le_refl _)
  have c0 := O.k0
  unfold fputZ
  rw [nth_set (by rw [outF_len]; exact stepS_lt l1 _ _)]
  split
  · omega
  · intro e; exact h ((O.fr i hi).1 e)
theorem fputZ_len6 (T : Tab) (key : Int) : (fputZ T key).length = T.zs.length := by unfold fputZ; rw [List.length_set, outF_len]

/-- A key that lies one slot behind the way that it had before is found there. -/
theorem one_behind {T : Tab} {zs : List Int} (hp : plainB T = true) (hm : -1 ∈ T.zs) (hv2 : validB (tab T zs) = true) (hl : zs.length = T.zs.length) (hfull : ∀ i, i < T.zs.length → nth T.zs i ≠ -1 → nth zs i ≠ -1)
    {a b : Nat} (ha : a < T.zs.length) (h0 : 0 ≤ nth T.zs a) (h9 : nth T.zs a ≤ 99) (hb : b = (a + 1) % T.zs.length) (he : nth zs b = nth T.zs a) :
    ∃ d : Nat, d ≤ 15 ∧ findOf T (nth T.zs a) = (a : Int) ∧ findOf (tab T zs) (nth T.zs a) = (b : Int) ∧ awayOf T (a : Int) = (d : Int) ∧ awayOf (tab T zs) (b : Int) = (d : Int) + 1 := by
  obtain ⟨hs, hv, _⟩ := plain_parts hp
  obtain ⟨⟨l1, l2⟩, _, _, hg⟩ := valid_facts hv
  have hbl : b < T.zs.length := by rw [hb]; exact Nat.mod_lt _ (by omega)
  obtain ⟨a1, a2, a3⟩ := away_self hv ha h0
  have hh := homeN_lt hv (nth T.zs a)
  have hkk : inB (nth T.zs a) 0 99 = true := inB_true ⟨h0, h9⟩
  have hf1 := sound_find hs ha h0
  have hnf : ∀ i, i < awN T T.zs a → nth T.zs (stepS T (homeN T (nth T.zs a)) i) ≠ -1 := by
    refine (found_iff hv a2 (by rw [a3]) h0).1 (by rw [hf1]; omega)
  have hlt : awN T T.zs a + 1 < T.zs.length := by
    refine Nat.lt_of_not_le fun hn => ?_
    obtain ⟨d, hd, e⟩ := free_step hh hm
    by_cases h1 : d < awN T T.zs a
    · exact hnf d h1 e
    · have : d = awN T T.zs a := by omega
      subst this
      rw [a3] at e
      omega
  have hst : stepS T (homeN T (nth T.zs a)) (awN T T.zs a + 1) = b := by rw [step_next6, a3, hb]
  have hlt2 : awN T T.zs a + 1 < (tab T zs).zs.length := by show _ < zs.length; omega
  have hhome : homeN (tab T zs) (nth T.zs a) = homeN T (nth T.zs a) := tab_home hl _
  have hstep : ∀ h i, stepS (tab T zs) h i = stepS T h i := fun h i => by unfold stepS; show (h + i) % zs.length = _; rw [hl]
  have hx : nth (tab T zs).zs (stepS (tab T zs) (homeN (tab T zs) (nth T.zs a)) (awN T T.zs a + 1)) = nth T.zs a := by
    rw [hhome, hstep, hst]; exact he
  have hfi : 0 ≤ findI (tab T zs) (nth T.zs a) := by
    refine (found_iff hv2 hlt2 hx h0).2 fun i hi => ?_
    rw [hhome, hstep]
    refine hfull _ (stepS_lt l1 _ _) ?_
    by_cases h1 : i < awN T T.zs a
    · exact hnf i h1
    · have : i = awN T T.zs a := by omega
      subst this
      rw [a3]; omega
  obtain ⟨e1, e2⟩ := find_yes hfi
  have hg2 := (valid_facts hv2).2.2.2
  have hll := lastOf_lt (T := tab T zs) (show 1 ≤ zs.length by omega) (nth T.zs a)
  have e3 : lastOf (tab T zs) (nth T.zs a) = b := by
    refine hg2.inj hll (show b < zs.length by omega) ?_ ?_
    · rw [e2]; exact he.symm
    · show 0 ≤ nth (tab T zs).zs (lastOf (tab T zs) (nth T.zs a)); rw [e2]; exact h0
  have h5 := away_step hv2 hlt2 hx h0
  rw [hhome, hstep, hst] at h5
  refine ⟨awN T T.zs a, by omega, ?_, ?_, a1, by rw [h5]; simp⟩
  · unfold findOf; rw [hv, hkk]; simpa using hf1
  · unfold findOf; rw [hv2, hkk]; simp only [Bool.and_self, if_true]; rw [e1, e3]

/-- What the law of swaps asks. -/
theorem swaps_say {T : Tab} {key : Int} (h : fputOk T key = true) {i : Nat} (hi : i < (fswaps T key).length) : ∃ a b d : Nat, a < T.zs.length ∧ b < T.zs.length ∧ b = (a + 1) % T.zs.length ∧ d ≤ 15 ∧ findOf T (nth (fswaps T key) i) = (a : Int) ∧
    findOf (fputT T key) (nth (fswaps T key) i) = (b : Int) ∧ awayOf T (a : Int) = (d : Int) ∧ awayOf (fputT T key) (b : Int) = (d : Int) + 1 ∧ (0 < i → ∃ c : Nat, c < T.zs.length ∧ findOf T (nth (fswaps T key) (i - 1)) = (c : Int) ∧ a = (c + 1) % T.zs.length) := by
  have F := fput_says h
  have hfa : fairB T = true := by simp only [fputOk, Bool.and_eq_true] at h; exact h.1.1.1
  obtain ⟨⟨l1, l2⟩, _⟩ := valid_facts F.val
  have eL : fswaps T key = fputL T key := by simp [fswaps, h]
  have eT : fputT T key = tab T (fputZ T key) := by simp [fputT, h]
  rw [eL] at hi ⊢
  rw [eT]
  rw [fputL_eq hfa F] at hi ⊢
  simp only [List.length_map, List.length_range] at hi
  have hnth : ∀ j, j < endF T key - giveN T key → nth ((List.range (endF T key - giveN T key)).map fun i => nth T.zs (stepS T (homeN T key) (giveN T key + i))) j = nth T.zs (stepS T (homeN T key) (giveN T key + j)) := fun j hj => by
    unfold nth
    simp [hj]
  have key2 : ∀ j, j < endF T key - giveN T key → ∃ d : Nat, d ≤ 15 ∧ findOf T (nth T.zs (stepS T (homeN T key) (giveN T key + j))) = (stepS T (homeN T key) (giveN T key + j) : Nat) ∧ findOf (tab T (fputZ T key)) (nth T.zs (stepS T (homeN T key) (giveN T key + j))) = (stepS T (homeN T key) (giveN T key + j + 1) : Nat) ∧
      awayOf T (stepS T (homeN T key) (giveN T key + j) : Nat) = (d : Int) ∧ awayOf (tab T (fputZ T key)) (stepS T (homeN T key) (giveN T key + j + 1) : Nat) = (d : Int) + 1 := fun j hj => by
    have k0 := plain_key F.plain (stepS_lt (T := T) l1 (homeN T key) (giveN T key + j)) (endF_before (T := T) (key := key) (d := giveN T key + j) (by omega))
    refine one_behind F.plain F.free F.val2 (fputZ_len6 T key) (fun i hi h => fputZ_full F hi h) (stepS_lt l1 _ _) k0.1 k0.2 (step_next6 T _ _) ?_
    rw [fputZ_at hfa F (by omega) (by omega), Nat.add_sub_cancel]
  obtain ⟨d, h1, h2, h3, h4, h5⟩ := key2 i hi
  rw [hnth i hi]
  refine ⟨_, _, d, stepS_lt l1 _ _, stepS_lt l1 _ _, step_next6 T _ _, h1, h2, h3, h4, h5, fun hi0 => ?_⟩
  obtain ⟨d', _, g2, _⟩ := key2 (i - 1) (by omega)
  rw [hnth (i - 1) (by omega)]
  refine ⟨_, stepS_lt l1 _ _, g2, ?_⟩
  rw [← step_next6]
  congr 1
  omega

end Go.Proofs.YtpncpeokdcolpaaGreatDoor

namespace Go.Proofs.YtpncpeokdcolpaaGreatDoor

/-- How far a key may lie from home behind another one. -/
def Lok (a x b y : Int) : Prop := b ≤ 0 ∨ (0 ≤ a ∧ b ≤ a) ∨ (0 ≤ a ∧ b = a + 1 ∧ x < y)
theorem fair_lok {T : Tab} (hf : fairB T = true) {i : Nat} (hi : i < T.zs.length) : Lok (awayOf T i) (nth T.zs i) (awayOf T ((i + 1) % T.zs.length : Nat)) (nth T.zs ((i + 1) % T.zs.length)) := by
  by_cases hb : 0 ≤ awayOf T ((i + 1) % T.zs.length : Nat)
  · rcases fair_runs hf hi rfl hb with ⟨h1, h2⟩ | ⟨h1, h2⟩ | ⟨h1, h2, h3⟩
    · exact .inl (by omega)
    · exact .inr (.inl ⟨h1, h2⟩)
    · exact .inr (.inr ⟨h1, h2, h3⟩)
  · exact .inl (by omega)

theorem lok_way {T : Tab} (hv : validB T = true) (hl : ∀ i, i < T.zs.length → Lok (awayOf T i) (nth T.zs i) (awayOf T ((i + 1) % T.zs.length : Nat)) (nth T.zs ((i + 1) % T.zs.length)))
    {j : Nat} (hj : j < T.zs.length) (h0 : 0 ≤ nth T.zs j) : ∀ e, 1 ≤ e → e ≤ awN T T.zs j →
      let s := stepS T (homeN T (nth T.zs j)) (awN T T.zs j - e)
      ((awN T T.zs j - e : Nat) : Int) ≤ awayOf T s ∧ (awayOf T s = ((awN T T.zs j - e : Nat) : Int) → nth T.zs s < nth T.zs j) := by
  obtain ⟨⟨l1, _⟩, _⟩ := valid_facts hv
  obtain ⟨a1, a2, a3⟩ := away_self hv hj h0
  intro e
  induction e with
  | zero => intro h; omega
  | succ e ih =>
    intro _ he
    show ((awN T T.zs j - (e + 1) : Nat) : Int) ≤ awayOf T (stepS T (homeN T (nth T.zs j)) (awN T T.zs j - (e + 1)) : Nat) ∧ (awayOf T (stepS T (homeN T (nth T.zs j)) (awN T T.zs j - (e + 1)) : Nat) = ((awN T T.zs j - (e + 1) : Nat) : Int) → nth T.zs (stepS T (homeN T (nth T.zs j)) (awN T T.zs j - (e + 1))) < nth T.zs j)
    have hs := stepS_lt (T := T) l1 (homeN T (nth T.zs j)) (awN T T.zs j - (e + 1))
    have hk := hl _ hs
    rw [← step_next6, show awN T T.zs j - (e + 1) + 1 = awN T T.zs j - e by omega] at hk
    by_cases e0 : e = 0
    · subst e0
      rw [Nat.sub_zero, a3, a1] at hk
      generalize stepS T (homeN T (nth T.zs j)) (awN T T.zs j - (0 + 1)) = s at hk ⊢
      rcases hk with h | ⟨h1, h2⟩ | ⟨h1, h2, h3⟩
      · omega
      · exact ⟨by omega, fun h => by omega⟩
      · exact ⟨by omega, fun _ => h3⟩
    · obtain ⟨i1, i2⟩ := ih (by omega) (by omega)
      generalize stepS T (homeN T (nth T.zs j)) (awN T T.zs j - (e + 1)) = s at hk ⊢
      generalize stepS T (homeN T (nth T.zs j)) (awN T T.zs j - e) = s' at hk i1 i2
      rcases hk with h | ⟨h1, h2⟩ | ⟨h1, h2, h3⟩
      · omega
      · exact ⟨by omega, fun h => by omega⟩
      · refine ⟨by omega, fun h => ?_⟩
        have := i2 (by omega)
        omega
theorem lok_fair {T : Tab} (hv : validB T = true) (ht : ∀ i, i < T.zs.length → nth T.zs i ≠ -2) (hm : -1 ∈ T.zs)
    (hl : ∀ i, i < T.zs.length → Lok (awayOf T i) (nth T.zs i) (awayOf T ((i + 1) % T.zs.length : Nat)) (nth T.zs ((i + 1) % T.zs.length))) : fairB T = true := by
  have hway : ∀ j, j < T.zs.length → 0 ≤ nth T.zs j → ∀ d, d < awN T T.zs j → aheadB T (stepS T (homeN T (nth T.zs j)) d) (nth T.zs j) d = true ∧ nth T.zs (stepS T (homeN T (nth T.zs j)) d) ≠ -1 := fun j hj h0 d hd => by
    obtain ⟨w1, w2⟩ := lok_way hv hl hj h0 (awN T T.zs j - d) (by omega) (by omega)
    rw [show awN T T.zs j - (awN T T.zs j - d) = d by omega] at w1 w2
    generalize stepS T (homeN T (nth T.zs j)) d = s at w1 w2 ⊢
    refine ⟨?_, fun e => ?_⟩
    · unfold aheadB
      simp only [Bool.or_eq_true, Bool.and_eq_true, decide_eq_true_eq, beq_iff_eq]
      by_cases c : awayOf T s = (d : Int)
      · exact .inr ⟨c, w2 c⟩
      · exact .inl (by omega)
    · rw [free_away (by omega)] at w1
      omega
  have hsound : soundB T = true := sound_all.2 ⟨hv, fun i hi h0 => by
    obtain ⟨a1, a2, a3⟩ := away_self hv hi h0
    exact (found_iff hv a2 (by rw [a3]) h0).2 fun m hm => (hway i hi h0 m hm).2⟩
  simp only [fairB, plainB, Bool.and_eq_true, decide_eq_true_eq, Bool.not_eq_true']
  refine ⟨⟨⟨hsound, decide_eq_false fun h => ?_⟩, hm⟩, fairTo_iff.2 fun i hi => ?_⟩
  · obtain ⟨i, hi, e⟩ := mem_nth h
    exact ht i hi e
  · unfold slotB
    by_cases c : nth T.zs i < 0
    · simp [c]
    · simp only [c, decide_false, Bool.false_or]
      exact wayB_iff.2 fun d hd => (hway i hi (by omega) d hd).1

theorem away_same6 {T : Tab} {zs : List Int} (hv : validB T = true) (hv2 : validB (tab T zs) = true) (hl : zs.length = T.zs.length) {i : Nat} (hi : i < T.zs.length) (e : nth zs i = nth T.zs i) : awayOf (tab T zs) i = awayOf T i := by
  by_cases h0 : nth T.zs i < 0
  · rw [free_away h0, free_away (T := tab T zs) (by show nth zs i < 0; omega)]
  · rw [awN_of hv2 hl hi (by omega), (away_self hv hi (by omega)).1]
    unfold awN
    rw [e]
theorem out_low {T : Tab} {key : Int} (hv : validB T = true) {m : Nat} (hm : m < giveN T key) : ∀ d, d ≤ T.zs.length → nth (outF T key d) (stepS T (homeN T key) m) = nth T.zs (stepS T (homeN T key) m) := by
  obtain ⟨⟨l1, _⟩, _⟩ := valid_facts hv
  have hh := homeN_lt hv key
  intro d
  induction d with
  | zero => intro _; rfl
  | succ d ih =>
    intro hd
    by_cases c : d < giveN T key
    · rw [(give_before (T := T) (key := key) (d + 1) (by omega)).2.1]
    · simp only [outF]
      split
      · exact ih (by omega)
      · rw [nth_set (by rw [outF_len]; exact stepS_lt l1 _ _), if_neg fun h => by have := step_inj hh (by omega) (by omega) h; omega]
        exact ih (by omega)
theorem out_give {T : Tab} {key : Int} (hv : validB T = true) : ∀ d, giveN T key < d → d ≤ endF T key → d ≤ T.zs.length → nth (outF T key d) (stepS T (homeN T key) (giveN T key)) = key := by
  obtain ⟨⟨l1, _⟩, _⟩ := valid_facts hv
  have hh := homeN_lt hv key
  intro d
  induction d with
  | zero => intro h; omega
  | succ d ih =>
    intro hg hE hd
    simp only [outF]
    by_cases c : d = giveN T key
    · subst c
      obtain ⟨e1, e2, e3⟩ := give_before (T := T) (key := key) (giveN T key) (Nat.le_refl _)
      have ha : aheadB T (stepS T (homeN T key) (giveN T key)) key (giveN T key) = false := by
        have := goN_stop (p := fun d => !aheadB T (stepS T (homeN T key) d) key d) (n := endF T key) (show giveN T key < endF T key by omega)
        simpa [giveN] using this
      rw [e1]
      simp only
      rw [ha]
      simp only [Bool.false_eq_true, if_false]
      rw [nth_set (by rw [outF_len]; exact stepS_lt l1 _ _), if_pos rfl]
    · have := ih (by omega) (by omega) (by omega)
      split
      · exact this
      · rw [nth_set (by rw [outF_len]; exact stepS_lt l1 _ _), if_neg fun h => by have := step_inj hh (by omega) (by omega) h; omega]
        exact this

/-- What the slots hold when a key has been put, by steps from its home. -/
structure Shifted (T : Tab) (key : Int) : Prop where
  low : ∀ m, m < giveN T key → nth (fputZ T key) (stepS T (homeN T key) m) = nth T.zs (stepS T (homeN T key) m)
  at_ : nth (fputZ T key) (stepS T (homeN T key) (giveN T key)) = key
  mid : ∀ m, giveN T key < m → m ≤ endF T key → nth (fputZ T key) (stepS T (homeN T key) m) = nth T.zs (stepS T (homeN T key) (m - 1))
  high : ∀ m, endF T key < m → m < T.zs.length → nth (fputZ T key) (stepS T (homeN T key) m) = nth T.zs (stepS T (homeN T key) m)
theorem shifted {T : Tab} {key : Int} (hfa : fairB T = true) (F : FputSays T key) : Shifted T key := by
  obtain ⟨⟨l1, _⟩, _⟩ := valid_facts F.val
  have hh := homeN_lt F.val key
  have hE := F.elt
  have hg := give_le T key
  refine ⟨fun m hm => ?_, ?_, fun m h1 h2 => fputZ_at hfa F h1 h2, fun m h1 h2 => ?_⟩
  · unfold fputZ
    rw [nth_set (by rw [outF_len]; exact stepS_lt l1 _ _), if_neg fun h => by have := step_inj hh (by omega) (by omega) h; omega]
    exact out_low F.val hm _ (by omega)
  · unfold fputZ
    rw [nth_set (by rw [outF_len]; exact stepS_lt l1 _ _)]
    by_cases c : giveN T key = endF T key
    · rw [← c, if_pos rfl, (give_before (T := T) (key := key) _ (Nat.le_refl _)).1]
    · rw [if_neg fun h => by have := step_inj hh (by omega) (by omega) h; omega]
      exact out_give F.val _ (by omega) (Nat.le_refl _) (by omega)
  · unfold fputZ
    rw [nth_set (by rw [outF_len]; exact stepS_lt l1 _ _), if_neg fun h => by have := step_inj hh (by omega) (by omega) h; omega]
    exact outF_at F.val _ _ (by omega) h2

theorem fput_fair {T : Tab} {key : Int} (h : fputOk T key = true) : fairB (tab T (fputZ T key)) = true := by
  have F := fput_says h
  simp only [fputOk, Bool.and_eq_true, decide_eq_true_eq] at h
  obtain ⟨⟨⟨hfa, hc⟩, hk⟩, _⟩ := h
  have Sh := shifted hfa F
  obtain ⟨⟨l1, l2⟩, _⟩ := valid_facts F.val
  have hh := homeN_lt F.val key
  have hE := F.elt
  have hg := give_le T key
  have hlen := fputZ_len T key
  have hfull : ∀ i, i < T.zs.length → nth T.zs i ≠ -1 → nth (fputZ T key) i ≠ -1 := fun i hi hne => fputZ_full F hi hne
  have hst : ∀ m, stepS T (homeN T key) m < T.zs.length := fun m => stepS_lt l1 _ _
  -- how far keys lie
  have same : ∀ m, nth (fputZ T key) (stepS T (homeN T key) m) = nth T.zs (stepS T (homeN T key) m) → awayOf (tab T (fputZ T key)) (stepS T (homeN T key) m : Nat) = awayOf T (stepS T (homeN T key) m : Nat) := fun m e => away_same6 F.val F.val2 hlen (hst m) e
  have atg : awayOf (tab T (fputZ T key)) (stepS T (homeN T key) (giveN T key) : Nat) = (giveN T key : Int) := by
    have e1 : homeN (tab T (fputZ T key)) key = homeN T key := tab_home hlen key
    have e2 : ∀ m, stepS (tab T (fputZ T key)) (homeN T key) m = stepS T (homeN T key) m := fun m => by simp [stepS, tab, hlen]
    have := away_step (T := tab T (fputZ T key)) (x := key) F.val2 (j := giveN T key) (by show giveN T key < (fputZ T key).length; omega) (by rw [e1, e2]; exact Sh.at_) F.key0.1
    rw [e1, e2] at this
    exact this
  have mid : ∀ m, giveN T key < m → m ≤ endF T key → awayOf (tab T (fputZ T key)) (stepS T (homeN T key) m : Nat) = awayOf T (stepS T (homeN T key) (m - 1) : Nat) + 1 ∧ 0 ≤ awayOf T (stepS T (homeN T key) (m - 1) : Nat) := fun m h1 h2 => by
    have k0 := plain_key F.plain (hst (m - 1)) (endF_before (T := T) (key := key) (d := m - 1) (by omega))
    obtain ⟨d, _, _, _, d1, d2⟩ := one_behind F.plain F.free F.val2 hlen hfull (hst (m - 1)) k0.1 k0.2 (b := stepS T (homeN T key) m) (by rw [← step_next6]; congr 1; omega) (Sh.mid m h1 h2)
    omega
  have old : ∀ m, Lok (awayOf T (stepS T (homeN T key) m : Nat)) (nth T.zs (stepS T (homeN T key) m)) (awayOf T (stepS T (homeN T key) (m + 1) : Nat)) (nth T.zs (stepS T (homeN T key) (m + 1))) := fun m => by
    have := fair_lok hfa (hst m)
    rwa [← step_next6] at this
  have oldE : awayOf T (stepS T (homeN T key) (endF T key + 1) : Nat) ≤ 0 := by
    have h1 := old (endF T key)
    rw [free_away (i := stepS T (homeN T key) (endF T key)) (by rw [F.eat]; omega)] at h1
    rcases h1 with h | ⟨h, _⟩ | ⟨h, _⟩ <;> omega
  have zero : stepS T (homeN T key) T.zs.length = stepS T (homeN T key) 0 := by unfold stepS; rw [Nat.add_mod_right]; rfl
  have main : ∀ m, m < T.zs.length → Lok (awayOf (tab T (fputZ T key)) (stepS T (homeN T key) m : Nat)) (nth (fputZ T key) (stepS T (homeN T key) m)) (awayOf (tab T (fputZ T key)) (stepS T (homeN T key) (m + 1) : Nat)) (nth (fputZ T key) (stepS T (homeN T key) (m + 1))) := fun m hm => by
    by_cases wrap : m + 1 = T.zs.length
    · rw [wrap, zero]
      by_cases g0 : giveN T key = 0
      · rw [g0] at atg
        exact .inl (by rw [atg]; simp)
      · have e0 := Sh.low 0 (by omega)
        rw [same 0 e0]
        by_cases mE : m = endF T key
        · left
          rw [← mE, wrap, zero] at oldE
          exact oldE
        · have e1 := Sh.high m (by omega) hm
          rw [same m e1, e1, e0]
          have := old m
          rw [wrap, zero] at this
          exact this
    · by_cases c1 : m + 1 < giveN T key
      · have e1 := Sh.low m (by omega)
        have e2 := Sh.low (m + 1) c1
        rw [same m e1, same (m + 1) e2, e1, e2]
        exact old m
      · by_cases c2 : m + 1 = giveN T key
        · have e1 := Sh.low m (by omega)
          rw [same m e1, e1, c2, atg, Sh.at_]
          have ha : aheadB T (stepS T (homeN T key) m) key m = true := by
            have := goN_free (p := fun d => !aheadB T (stepS T (homeN T key) d) key d) (n := endF T key) (j := m) (show m < giveN T key by omega)
            simpa using this
          unfold aheadB at ha
          simp only [Bool.or_eq_true, Bool.and_eq_true, decide_eq_true_eq, beq_iff_eq] at ha
          rcases ha with ha | ⟨ha, hx⟩
          · exact .inr (.inl ⟨by omega, by omega⟩)
          · exact .inr (.inr ⟨by omega, by omega, hx⟩)
        · by_cases c3 : m < giveN T key
          · omega
          · by_cases c4 : endF T key < m
            · have e1 := Sh.high m c4 hm
              have e2 := Sh.high (m + 1) (by omega) (by omega)
              rw [same m e1, same (m + 1) e2, e1, e2]
              exact old m
            · by_cases c5 : m = endF T key
              · left
                have e2 := Sh.high (m + 1) (by omega) (by omega)
                rw [same (m + 1) e2, c5]
                exact oldE
              · obtain ⟨b1, b2⟩ := mid (m + 1) (by omega) (by omega)
                rw [Nat.add_sub_cancel] at b1 b2
                have eb := Sh.mid (m + 1) (by omega) (by omega)
                rw [Nat.add_sub_cancel] at eb
                rw [b1, eb]
                by_cases c6 : m = giveN T key
                · rw [c6, atg, Sh.at_, ← c6]
                  have ha : aheadB T (stepS T (homeN T key) m) key m = false := by
                    have := goN_stop (p := fun d => !aheadB T (stepS T (homeN T key) d) key d) (n := endF T key) (show giveN T key < endF T key by omega)
                    rw [c6]
                    simpa [giveN] using this
                  have hne := F.no _ (hst m)
                  unfold aheadB at ha
                  simp only [Bool.or_eq_false_iff, Bool.and_eq_false_iff, decide_eq_false_iff_not, beq_eq_false_iff_ne] at ha
                  obtain ⟨h1, h2⟩ := ha
                  by_cases c7 : awayOf T (stepS T (homeN T key) m : Nat) = (m : Int)
                  · rcases h2 with h2 | h2
                    · exact absurd c7 h2
                    · exact .inr (.inr ⟨by omega, by omega, by omega⟩)
                  · exact .inr (.inl ⟨by omega, by omega⟩)
                · obtain ⟨a1, a2⟩ := mid m (by omega) (by omega)
                  have ea := Sh.mid m (by omega) (by omega)
                  rw [a1, ea]
                  have := old (m - 1)
                  rw [show m - 1 + 1 = m by omega] at this
                  rcases this with h | ⟨h1, h2⟩ | ⟨h1, h2, h3⟩
                  · exact .inr (.inl ⟨by omega, by omega⟩)
                  · exact .inr (.inl ⟨by omega, by omega⟩)
                  · exact .inr (.inr ⟨by omega, by omega, h3⟩)
  refine lok_fair F.val2 (fun i hi => ?_) ?_ fun i hi => ?_
  · have hi' : i < T.zs.length := by have : i < (fputZ T key).length := hi; omega
    rcases fput_from (T := T) (key := key) l1 i hi' with e | e
    · show nth (fputZ T key) i ≠ -2
      have := F.key0; omega
    · obtain ⟨j, hj, ej⟩ := mem_nth e
      show nth (fputZ T key) i ≠ -2
      rw [← ej]
      exact (plain_parts F.plain).2.2 j hj
  · have hcnt := fput_count (T := T) (key := key) (by simp [fputOk, hfa, hc, hk, none_find F.val F.no])
    simp only [countF, F.val, if_true] at hc
    have hne : cnt freeP (fputZ T key) (fputZ T key).length ≠ 0 := by rw [hlen]; omega
    obtain ⟨f, hf, hff⟩ : ∃ f, f < (fputZ T key).length ∧ nth (fputZ T key) f = -1 := by
      by_cases c : ∃ f, f < (fputZ T key).length ∧ nth (fputZ T key) f = -1
      · exact c
      · exact absurd (cnt_none fun i hi => by
          have : nth (fputZ T key) i ≠ -1 := fun e => c ⟨i, hi, e⟩
          simp [freeP, this]) hne
    show -1 ∈ fputZ T key
    rw [← hff]
    exact nth_mem hf
  · have hi' : i < T.zs.length := by have : i < (fputZ T key).length := hi; omega
    obtain ⟨s1, s2⟩ := step_away hh hi'
    have := main _ s2
    rw [step_next6, s1] at this
    have e : (tab T (fputZ T key)).zs.length = T.zs.length := hlen
    rw [e]
    exact this

end Go.Proofs.YtpncpeokdcolpaaGreatDoor

namespace Go.Proofs.YtpncpeokdcolpaaGreatDoor

/-- The first slot of some steps that is free or a tomb, or -1. -/
def lookPl (T : Tab) (h : Nat) (pre : List Nat) : Int := ((pre.find? fun i => decide (nth T.zs (stepS T h i) < 0)).map fun i => (stepS T h i : Int)).getD (-1)
theorem lookPl_nil (T : Tab) (h : Nat) : lookPl T h [] = -1 := rfl
theorem lookPl_keep {T : Tab} {h : Nat} {pre : List Nat} {i : Nat} (hc : 0 ≤ lookPl T h pre ∨ 0 ≤ nth T.zs (stepS T h i)) : lookPl T h (pre ++ [i]) = lookPl T h pre := by
  unfold lookPl at *
  rw [List.find?_append]
  cases hf : pre.find? fun i => decide (nth T.zs (stepS T h i) < 0) with
  | some j => simp
  | none =>
    rcases hc with hc | hc
    · rw [hf] at hc; simp at hc
    · have : ¬ nth T.zs (stepS T h i) < 0 := by omega
      simp [this]
theorem lookPl_new {T : Tab} {h : Nat} {pre : List Nat} {i : Nat} (h1 : lookPl T h pre < 0) (h2 : nth T.zs (stepS T h i) < 0) : lookPl T h (pre ++ [i]) = stepS T h i := by
  unfold lookPl at *
  rw [List.find?_append]
  cases hf : pre.find? fun i => decide (nth T.zs (stepS T h i) < 0) with
  | some j => rw [hf] at h1; simp at h1; omega
  | none => simp [h2]
theorem lookPl_bounds {T : Tab} (hn : 1 ≤ T.zs.length) (h : Nat) (pre : List Nat) : -1 ≤ lookPl T h pre ∧ lookPl T h pre < T.zs.length := by
  unfold lookPl
  cases pre.find? fun i => decide (nth T.zs (stepS T h i) < 0) with
  | some j => have := stepS_lt hn h j; simp; omega
  | none => simp; omega
theorem firstLow_way (T : Tab) (h k : Nat) : firstLow T.zs (wayTo T h k) = lookPl T h (List.range k) := by
  unfold firstLow wayTo lookPl
  rw [List.find?_map]
  congr 2

/-- No step of these stops. -/
def Free' (T : Tab) (key : Int) (h : Nat) (pre : List Nat) : Prop := ∀ i, i ∈ pre → stopAt T key h i = false
theorem Free'.nil (T : Tab) (key : Int) (h : Nat) : Free' T key h [] := fun _ h => (by cases h)
theorem Free'.snoc {T : Tab} {key : Int} {h : Nat} {pre : List Nat} {i : Nat} (hp : Free' T key h pre) (hi : stopAt T key h i = false) : Free' T key h (pre ++ [i]) := by
  intro j hj
  rcases List.mem_append.1 hj with h1 | h1
  · exact hp j h1
  · obtain rfl := List.mem_singleton.1 h1; exact hi

theorem range_snoc {k : Nat} {pre : List Nat} {x : Nat} (h : List.range k = pre ++ [x]) : k = x + 1 ∧ pre = List.range x := by
  cases k with
  | zero => simp at h
  | succ k =>
    rw [List.range_succ] at h
    obtain ⟨h1, h2⟩ := List.append_inj' h rfl
    simp at h2
    subst h2
    exact ⟨rfl, h1.symm⟩

/-- What the search has found where it stops at the last of some steps. -/
theorem look_stop {T : Tab} {key : Int} {h k x : Nat} {pre : List Nat} (hh : homeN T key = h) (hk : k ≤ T.zs.length) (he : List.range k = pre ++ [x]) (hf : Free' T key h pre) (hs : stopAt T key h x = true) :
    visN T key (homeN T key) = (pre ++ [x]).length ∧ lastOf T key = stepS T h x ∧ wayOf T key = wayTo T h k ∧ List.range k = pre ++ [x] := by
  obtain ⟨rfl, rfl⟩ := range_snoc he
  have hv : visN T key h = x + 1 := visN_stop (by omega) (fun j hj => hf j (List.mem_range.2 hj)) hs
  subst hh
  refine ⟨by rw [hv]; simp, by rw [lastOf, hv]; rfl, by rw [wayOf, hv], he⟩
theorem look_found {T : Tab} {key : Int} {h k x : Nat} {pre : List Nat} (hh : homeN T key = h) (hk : k ≤ T.zs.length) (he : List.range k = pre ++ [x]) (hf : Free' T key h pre) (hs : nth T.zs (stepS T h x) = key) :
    visN T key (homeN T key) = (pre ++ [x]).length ∧ findI T key = stepS T h x := by
  obtain ⟨h1, h2, _, _⟩ := look_stop hh hk he hf (by simp [stopAt, hs])
  exact ⟨h1, by rw [findI, h2, if_pos hs]⟩
theorem look_free {T : Tab} {key : Int} {h k x : Nat} {pre : List Nat} (h0 : 0 ≤ key) (hh : homeN T key = h) (hk : k ≤ T.zs.length) (he : List.range k = pre ++ [x]) (hf : Free' T key h pre) (hs : nth T.zs (stepS T h x) = -1) :
    visN T key (homeN T key) = (pre ++ [x]).length ∧ findI T key = -1 ∧ firstLow T.zs (wayOf T key) = lookPl T h (pre ++ [x]) := by
  obtain ⟨h1, h2, h3, h4⟩ := look_stop hh hk he hf (by simp [stopAt, hs])
  refine ⟨h1, by rw [findI, h2, hs, if_neg (by omega)], ?_⟩
  rw [h3, firstLow_way, h4]
theorem look_none {T : Tab} {key : Int} {h : Nat} {pre : List Nat} (hn : 1 ≤ T.zs.length) (hh : homeN T key = h) (he : pre = List.range T.zs.length) (hf : Free' T key h pre) :
    visN T key (homeN T key) = pre.length ∧ findI T key = -1 ∧ firstLow T.zs (wayOf T key) = lookPl T h pre := by
  subst he
  have hv : visN T key h = T.zs.length := visN_all fun j hj => hf j (List.mem_range.2 hj)
  subst hh
  refine ⟨by rw [hv]; simp, ?_, by rw [wayOf, hv, firstLow_way]⟩
  have h2 : lastOf T key = stepS T (homeN T key) (T.zs.length - 1) := by rw [lastOf, hv]
  have := hf (T.zs.length - 1) (List.mem_range.2 (by omega))
  simp only [stopAt, Bool.or_eq_false_iff, beq_eq_false_iff_ne, ne_eq] at this
  rw [findI, h2, if_neg this.2]

end Go.Proofs.YtpncpeokdcolpaaGreatDoor

namespace Go.Proofs.YtpncpeokdcolpaaGreatDoor

theorem prevS_pos {T : Tab} {i : Nat} (h0 : 0 < i) (hi : i < T.zs.length) : prevS T i = i - 1 := by
  unfold prevS
  rw [show i + T.zs.length - 1 = i - 1 + T.zs.length by omega, Nat.add_mod_right, Nat.mod_eq_of_lt (by omega)]
theorem prevS_zero {T : Tab} (hn : 1 ≤ T.zs.length) : prevS T 0 = T.zs.length - 1 := by
  unfold prevS
  rw [Nat.zero_add, Nat.mod_eq_of_lt (by omega)]
theorem prev_tmod {T : Tab} (hn : 1 ≤ T.zs.length) (i : Nat) : ((i : Int) - 1) % (T.zs.length : Int) = (prevS T i : Int) := by
  rw [← prev_cast hn i, show (i : Int) + T.zs.length - 1 = (i : Int) - 1 + T.zs.length by omega, Int.add_emod_right]

theorem runsTo_nil {T : Tab} {k : Nat} (h : ∀ i, i < k → startB T i = false) : runsTo T k = [] := by
  induction k with
  | zero => rfl
  | succ k ih => rw [runsTo_no (h k (by omega))]; exact ih fun i hi => h i (by omega)
theorem runsTo_none {T : Tab} {k : Nat} (h : runsTo T k = []) : ∀ i, i < k → startB T i = false := by
  simp only [runsTo, List.map_eq_nil_iff, List.filter_eq_nil_iff, List.mem_range] at h
  intro i hi
  simpa using h i hi

/-- No slot is free: all are one run. -/
theorem runs_full {T : Tab} (hn : 1 ≤ T.zs.length) (h : ∀ i, i < T.zs.length → nth T.zs i ≠ -1) : runsL T = [(0, T.zs.length)] := by
  have h0 := h 0 (by omega)
  by_cases h1 : T.zs.length = 1
  · have hs : startB T 0 = true := by simp [startB, h1, h0]
    have e : runsTo T T.zs.length = [(0, sizeFrom T 0)] := by rw [h1, runsTo_yes hs]; rfl
    have hz : sizeFrom T 0 = T.zs.length := by
      refine goN_all fun j hj => ?_
      have := h (stepS T 0 j) (stepS_lt hn 0 j)
      simpa using this
    rw [runsL, if_neg (by rw [e]; simp), e, hz]
  · have e : runsTo T T.zs.length = [] := runsTo_nil fun i hi => by
      have := h _ (prevS_lt hn i)
      simp [startB, show 1 < T.zs.length by omega, this]
    rw [runsL, if_pos ⟨by rw [e]; rfl, h0⟩]

/-- Some slot is free: the runs open where one is not and the one ahead of it is. -/
theorem runs_some {T : Tab} (hn : 1 ≤ T.zs.length) {i : Nat} (hi : i < T.zs.length) (h : nth T.zs i = -1) : runsL T = runsTo T T.zs.length := by
  rw [runsL, if_neg]
  rintro ⟨h1, h0⟩
  have hs := runsTo_none (List.eq_nil_of_length_eq_zero h1)
  have back : ∀ j, j < T.zs.length → nth T.zs j ≠ -1 → nth T.zs (prevS T j) ≠ -1 := by
    intro j hj h2
    have := hs j hj
    have hb : (nth T.zs j != -1) = true := by simpa using h2
    rw [startB, hb, Bool.true_and, Bool.not_eq_false', Bool.and_eq_true] at this
    simpa using this.2
  have all : ∀ d, d < T.zs.length → nth T.zs (T.zs.length - 1 - d) ≠ -1 := by
    intro d
    induction d with
    | zero =>
      intro _
      have := back 0 (by omega) h0
      rwa [prevS_zero hn] at this
    | succ d ih =>
      intro hd
      have := back _ (by omega) (ih (by omega))
      rw [prevS_pos (by omega) (by omega)] at this
      rwa [show T.zs.length - 1 - (d + 1) = T.zs.length - 1 - d - 1 by omega]
  have := all (T.zs.length - 1 - i) (by omega)
  rw [show T.zs.length - 1 - (T.zs.length - 1 - i) = i by omega] at this
  exact this h

/-- A run opens where the program says it does: a slot that is not free behind one that is. -/
theorem startB_free {T : Tab} {j : Nat} (hn : 1 ≤ T.zs.length) (hj : j < T.zs.length) (h : nth T.zs j = -1) {i : Nat} (hi : i < T.zs.length) : startB T i = ((nth T.zs i != -1) && !(nth T.zs (prevS T i) != -1)) := by
  unfold startB
  by_cases h1 : 1 < T.zs.length
  · simp [h1]
  · obtain rfl : i = j := by omega
    simp [h]

/-- All of these steps come to slots that are not free. -/
def Taken' (T : Tab) (h : Nat) (pre : List Nat) : Prop := ∀ i, i ∈ pre → nth T.zs (stepS T h i) ≠ -1
theorem Taken'.nil (T : Tab) (h : Nat) : Taken' T h [] := fun _ h => (by cases h)
theorem Taken'.snoc {T : Tab} {h : Nat} {pre : List Nat} {i : Nat} (hp : Taken' T h pre) (hi : nth T.zs (stepS T h i) ≠ -1) : Taken' T h (pre ++ [i]) := by
  intro j hj
  rcases List.mem_append.1 hj with h1 | h1
  · exact hp j h1
  · obtain rfl := List.mem_singleton.1 h1; exact hi
theorem size_stop {T : Tab} {h k x : Nat} {pre : List Nat} (hk : k ≤ T.zs.length) (he : List.range k = pre ++ [x]) (hf : Taken' T h pre) (hs : nth T.zs (stepS T h x) = -1) : sizeFrom T h = pre.length := by
  obtain ⟨rfl, rfl⟩ := range_snoc he
  rw [sizeFrom, goN_eq (i := x) (by omega) (fun j hj => ?_) (by simp [hs])]
  · simp
  · have := hf j (List.mem_range.2 hj)
    simpa using this
theorem taken_all {T : Tab} (hn : 1 ≤ T.zs.length) {h i : Nat} (hi : i < T.zs.length) (hh : h < T.zs.length) (hf : Taken' T h (List.range T.zs.length)) : nth T.zs i ≠ -1 := by
  have := hf ((i + T.zs.length - h) % T.zs.length) (List.mem_range.2 (Nat.mod_lt _ (by omega)))
  rwa [stepS, Nat.add_mod_mod, show h + (i + T.zs.length - h) = i + T.zs.length by omega, Nat.add_mod_right, Nat.mod_eq_of_lt hi] at this

end Go.Proofs.YtpncpeokdcolpaaGreatDoor

namespace Go.Proofs.YtpncpeokdcolpaaGreatDoor

/-- The slot behind a slot. -/
def nextS (T : Tab) (i : Nat) : Nat := stepS T i 1
theorem nextS_eq {T : Tab} {i : Nat} (hi : i < T.zs.length) : nextS T i = if i + 1 < T.zs.length then i + 1 else 0 := by
  unfold nextS stepS
  by_cases h : i + 1 < T.zs.length
  · rw [if_pos h, Nat.mod_eq_of_lt h]
  · rw [if_neg h, show i + 1 = T.zs.length by omega, Nat.mod_self]
theorem prevS_eq {T : Tab} {i : Nat} (hi : i < T.zs.length) : prevS T i = if i = 0 then T.zs.length - 1 else i - 1 := by
  by_cases h : i = 0
  · subst h; rw [if_pos rfl, prevS_zero (by omega)]
  · rw [if_neg h, prevS_pos (by omega) hi]
theorem prev_next {T : Tab} {i : Nat} (hi : i < T.zs.length) : prevS T (nextS T i) = i := by
  have h1 := nextS_eq hi
  by_cases h : i + 1 < T.zs.length
  · rw [if_pos h] at h1
    rw [h1, prevS_eq h, if_neg (by omega)]; omega
  · rw [if_neg h] at h1
    rw [h1, prevS_eq (by omega), if_pos rfl]; omega
theorem step_eq {T : Tab} {h i : Nat} (hh : h < T.zs.length) (hi : i ≤ T.zs.length) : stepS T h i = if h + i < T.zs.length then h + i else h + i - T.zs.length := nadd hh hi
theorem step_next {T : Tab} {i j : Nat} (hi : i < T.zs.length) (hj : j + 1 ≤ T.zs.length) : stepS T (nextS T i) j = stepS T i (j + 1) := by
  have h1 := nextS_eq hi
  by_cases h : i + 1 < T.zs.length
  · rw [if_pos h] at h1
    rw [h1, step_eq h (by omega), step_eq hi hj]
    split <;> split <;> omega
  · rw [if_neg h] at h1
    rw [h1, step_eq (by omega) (by omega), step_eq hi hj]
    split <;> split <;> omega

def sumTo (f : Nat → Nat) : Nat → Nat
  | 0 => 0
  | k + 1 => sumTo f k + f k
theorem sumTo_add (f g : Nat → Nat) (k : Nat) : sumTo (fun i => f i + g i) k = sumTo f k + sumTo g k := by
  induction k with
  | zero => rfl
  | succ k ih => simp only [sumTo, ih]; omega
theorem sumTo_congr {f g : Nat → Nat} {k : Nat} (h : ∀ i, i < k → f i = g i) : sumTo f k = sumTo g k := by
  induction k with
  | zero => rfl
  | succ k ih => simp only [sumTo]; rw [ih fun i hi => h i (by omega), h k (by omega)]
theorem sumTo_le {f g : Nat → Nat} {k : Nat} (h : ∀ i, i < k → f i ≤ g i) : sumTo f k ≤ sumTo g k := by
  induction k with
  | zero => exact Nat.le_refl _
  | succ k ih => simp only [sumTo]; have := ih fun i hi => h i (by omega); have := h k (by omega); omega
theorem sumTo_turn {T : Tab} (hn : 1 ≤ T.zs.length) (f : Nat → Nat) : sumTo (fun i => f (nextS T i)) T.zs.length = sumTo f T.zs.length := by
  have key : ∀ k, k + 1 ≤ T.zs.length → sumTo (fun i => f (nextS T i)) k + f 0 = sumTo f (k + 1) := by
    intro k
    induction k with
    | zero => intro _; simp [sumTo]
    | succ k ih =>
      intro hk
      have := ih (by omega)
      have e : nextS T k = k + 1 := by rw [nextS_eq (by omega), if_pos (by omega)]
      have e1 : sumTo (fun i => f (nextS T i)) (k + 1) = sumTo (fun i => f (nextS T i)) k + f (nextS T k) := rfl
      have e2 : sumTo f (k + 1 + 1) = sumTo f (k + 1) + f (k + 1) := rfl
      rw [e1, e2, e]
      omega
  obtain ⟨m, hm⟩ : ∃ m, T.zs.length = m + 1 := ⟨T.zs.length - 1, by omega⟩
  have h1 := key m (by omega)
  have e : nextS T m = 0 := by rw [nextS_eq (by omega), if_neg (by omega)]
  have e1 : sumTo (fun i => f (nextS T i)) (m + 1) = sumTo (fun i => f (nextS T i)) m + f (nextS T m) := rfl
  rw [hm, e1, e]
  exact h1

theorem size_zero {T : Tab} {i : Nat} (hn : 1 ≤ T.zs.length) (hi : i < T.zs.length) (h : nth T.zs i = -1) : sizeFrom T i = 0 := by
  refine goN_eq (by omega) (fun j hj => by omega) ?_
  have : stepS T i 0 = i := by rw [step_eq hi (by omega), if_pos (by omega)]; omega
  simp [this, h]
/-- Steps of which none comes to a free slot. -/
theorem size_ge {T : Tab} {i k : Nat} (hk : k ≤ T.zs.length) (h : ∀ j, j < k → nth T.zs (stepS T i j) ≠ -1) : k ≤ sizeFrom T i := by
  refine Nat.not_lt.1 fun hlt => ?_
  have h1 := goN_stop (p := fun j => nth T.zs (stepS T i j) == -1) (n := T.zs.length) (by unfold sizeFrom at hlt; omega)
  have h2 := h _ hlt
  exact h2 (by simpa [sizeFrom] using h1)
theorem size_in {T : Tab} {i j : Nat} (h : j < sizeFrom T i) : nth T.zs (stepS T i j) ≠ -1 := by
  have := goN_free (p := fun j => nth T.zs (stepS T i j) == -1) (n := T.zs.length) h
  simpa using this
theorem size_end {T : Tab} {i : Nat} (h : sizeFrom T i < T.zs.length) : nth T.zs (stepS T i (sizeFrom T i)) = -1 := by
  have := goN_stop (p := fun j => nth T.zs (stepS T i j) == -1) (n := T.zs.length) h
  simpa [sizeFrom] using this
theorem size_le (T : Tab) (i : Nat) : sizeFrom T i ≤ T.zs.length := goN_le _ _
theorem size_lt {T : Tab} {i f : Nat} (hi : i < T.zs.length) (hf : f < T.zs.length) (h : nth T.zs f = -1) : sizeFrom T i < T.zs.length := by
  refine Nat.lt_of_le_of_ne (size_le T i) fun e => ?_
  obtain ⟨h1, h2⟩ := step_away hi hf
  exact size_in (T := T) (i := i) (j := (f + T.zs.length - i) % T.zs.length) (by omega) (by rw [h1]; exact h)
theorem size_next {T : Tab} {i f : Nat} (hi : i < T.zs.length) (h : nth T.zs i ≠ -1) (hf : f < T.zs.length) (hff : nth T.zs f = -1) : sizeFrom T i = sizeFrom T (nextS T i) + 1 := by
  have hn : 1 ≤ T.zs.length := by omega
  have hnl : nextS T i < T.zs.length := stepS_lt hn i 1
  have hlt := size_lt hnl hf hff
  have he := size_end hlt
  rw [step_next hi (by omega)] at he
  have h0 : stepS T i T.zs.length = i := by rw [step_eq hi (Nat.le_refl _), if_neg (by omega)]; omega
  have hne : sizeFrom T (nextS T i) + 1 ≠ T.zs.length := fun e => by
    rw [e, h0] at he
    exact h he
  refine goN_eq (by omega) (fun j hj => ?_) (by simp [he])
  cases j with
  | zero =>
    have : stepS T i 0 = i := by rw [step_eq hi (by omega), if_pos (by omega)]; omega
    simp [this, h]
  | succ j =>
    have := size_in (T := T) (i := nextS T i) (j := j) (by omega)
    rw [step_next hi (by omega)] at this
    simpa using this

theorem cnt_sum (p : Int → Bool) (zs : List Int) (k : Nat) (hk : k ≤ zs.length) : cnt p zs k = sumTo (fun i => if p (nth zs i) then 1 else 0) k := by
  induction k with
  | zero => simp [cnt_zero, sumTo]
  | succ k ih => rw [cnt_succ (by omega) rfl, ih (by omega)]; rfl
theorem runs_sum (T : Tab) (k : Nat) : ((runsTo T k).map Prod.snd).sum = sumTo (fun i => if startB T i then sizeFrom T i else 0) k ∧ (runsTo T k).length = sumTo (fun i => if startB T i then 1 else 0) k := by
  induction k with
  | zero => simp [runsTo, sumTo]
  | succ k ih =>
    cases h : startB T k
    · rw [runsTo_no h]
      simp only [sumTo, h]
      simpa using ih
    · rw [runsTo_yes h]
      simp only [sumTo, h, List.map_append, List.sum_append, List.length_append]
      simp [ih.1, ih.2]

/-- Together runs have all slots that are not free, and they are no more than free slots. -/
theorem runs_all {T : Tab} (hv : validB T = true) : (((runsL T).map Prod.snd).sum : Int) = countK T + countT T ∧ ((runsL T).length : Int) ≤ max (countF T) 1 := by
  obtain ⟨⟨l1, l2⟩, _⟩ := valid_facts hv
  have hall := cnt_all T.zs
  simp only [countK, countT, countF, hv, if_true]
  by_cases hf : ∃ i, i < T.zs.length ∧ nth T.zs i = -1
  · obtain ⟨f, hf, hff⟩ := hf
    have hs := fun i (hi : i < T.zs.length) => startB_free l1 hf hff hi
    obtain ⟨r1, r2⟩ := runs_sum T T.zs.length
    rw [runs_some l1 hf hff, r1, r2]
    have hcf := cnt_sum freeP T.zs T.zs.length (Nat.le_refl _)
    have e1 : sumTo (fun i => if startB T i then sizeFrom T i else 0) T.zs.length = sumTo (fun i => if nth T.zs (prevS T i) = -1 then sizeFrom T i else 0) T.zs.length := by
      refine sumTo_congr fun i hi => ?_
      rw [hs i hi]
      by_cases h1 : nth T.zs i = -1
      · rw [size_zero l1 hi h1]; simp
      · by_cases h2 : nth T.zs (prevS T i) = -1 <;> simp [h1, h2]
    have e2 : sumTo (fun i => if nth T.zs (prevS T (nextS T i)) = -1 then sizeFrom T (nextS T i) else 0) T.zs.length = sumTo (fun i => if nth T.zs (prevS T i) = -1 then sizeFrom T i else 0) T.zs.length := sumTo_turn l1 (fun i => if nth T.zs (prevS T i) = -1 then sizeFrom T i else 0)
    have e3 : sumTo (fun i => sizeFrom T (nextS T i)) T.zs.length = sumTo (sizeFrom T) T.zs.length := sumTo_turn l1 (sizeFrom T)
    have e4 : sumTo (fun i => sizeFrom T i + (if nth T.zs (prevS T (nextS T i)) = -1 then sizeFrom T (nextS T i) else 0)) T.zs.length = sumTo (fun i => (if freeP (nth T.zs i) then 0 else 1) + sizeFrom T (nextS T i)) T.zs.length := by
      refine sumTo_congr fun i hi => ?_
      rw [prev_next hi]
      by_cases h1 : nth T.zs i = -1
      · rw [size_zero l1 hi h1]; simp [h1, freeP]
      · rw [size_next hi h1 hf hff]; simp [h1, freeP]; omega
    rw [sumTo_add, sumTo_add] at e4
    have e9 : sumTo (fun i => sizeFrom T i) T.zs.length = sumTo (sizeFrom T) T.zs.length := rfl
    have e5 : sumTo (fun i => if freeP (nth T.zs i) then 0 else 1) T.zs.length + sumTo (fun i => if freeP (nth T.zs i) then 1 else 0) T.zs.length = T.zs.length := by
      rw [← sumTo_add]
      have : ∀ k, sumTo (fun i => (if freeP (nth T.zs i) then 0 else 1) + (if freeP (nth T.zs i) then 1 else 0)) k = k := by
        intro k
        induction k with
        | zero => rfl
        | succ k ih => simp only [sumTo, ih]; split <;> rfl
      exact this _
    have e6 : sumTo (fun i => if startB T i then 1 else 0) T.zs.length ≤ sumTo (fun i => if freeP (nth T.zs (prevS T i)) then 1 else 0) T.zs.length := sumTo_le fun i hi => by
      rw [hs i hi]
      by_cases h2 : nth T.zs (prevS T i) = -1
      · simp [h2, freeP]; split <;> omega
      · simp [h2, freeP]
    have e7 : sumTo (fun i => if freeP (nth T.zs (prevS T (nextS T i))) then 1 else 0) T.zs.length = sumTo (fun i => if freeP (nth T.zs (prevS T i)) then 1 else 0) T.zs.length := sumTo_turn l1 (fun i => if freeP (nth T.zs (prevS T i)) then 1 else 0)
    have e8 : sumTo (fun i => if freeP (nth T.zs (prevS T (nextS T i))) then 1 else 0) T.zs.length = sumTo (fun i => if freeP (nth T.zs i) then 1 else 0) T.zs.length := sumTo_congr fun i hi => by rw [prev_next hi]
    constructor <;> omega
  · have hno : ∀ i, i < T.zs.length → nth T.zs i ≠ -1 := fun i hi h => hf ⟨i, hi, h⟩
    have h0 : cnt freeP T.zs T.zs.length = 0 := cnt_none fun i hi => by have := hno i hi; simp [freeP, this]
    rw [runs_full l1 hno]
    simp
    omega

/-- The runs of a table: in order, none empty. -/
theorem runs_order {T : Tab} (hv : validB T = true) : (runsL T).Pairwise (fun a b => a.1 < b.1) ∧ ∀ r, r ∈ runsL T → 1 ≤ r.2 := by
  obtain ⟨⟨l1, l2⟩, _⟩ := valid_facts hv
  by_cases hf : ∃ i, i < T.zs.length ∧ nth T.zs i = -1
  · obtain ⟨f, hf, hff⟩ := hf
    rw [runs_some l1 hf hff]
    refine ⟨?_, fun r hr => ?_⟩
    · unfold runsTo
      refine List.Pairwise.map _ (fun _ _ h => h) (R := fun a b : Nat => a < b) ?_
      exact List.Pairwise.filter _ (List.pairwise_lt_range)
    · unfold runsTo at hr
      obtain ⟨i, hi, rfl⟩ := List.mem_map.1 hr
      obtain ⟨h1, h2⟩ := List.mem_filter.1 hi
      have h3 := List.mem_range.1 h1
      rw [startB_free l1 hf hff h3] at h2
      have h4 : nth T.zs i ≠ -1 := by
        intro e; rw [e] at h2; simp at h2
      show 1 ≤ sizeFrom T i
      rw [size_next h3 h4 hf hff]; omega
  · have hno : ∀ i, i < T.zs.length → nth T.zs i ≠ -1 := fun i hi h => hf ⟨i, hi, h⟩
    rw [runs_full l1 hno]
    exact ⟨List.pairwise_singleton _ _, fun r hr => by simp at hr; subst hr; exact l1⟩

end Go.Proofs.YtpncpeokdcolpaaGreatDoor

namespace Go.Proofs.YtpncpeokdcolpaaGreatDoor

/-- The sum of the first n values. -/
def sumU (f : Nat → Nat) (n : Nat) : Nat := ((List.range n).map f).sum
theorem sumU_succ (f : Nat → Nat) (n : Nat) : sumU f (n + 1) = sumU f n + f n := by
  simp [sumU, List.range_succ]
theorem sumU_congr {f g : Nat → Nat} {n : Nat} (h : ∀ i, i < n → f i = g i) : sumU f n = sumU g n := by
  induction n with
  | zero => rfl
  | succ n ih => rw [sumU_succ, sumU_succ, ih fun i hi => h i (by omega), h n (by omega)]
theorem sumU_add (f : Nat → Nat) (a b : Nat) : sumU f (a + b) = sumU f a + sumU (fun i => f (a + i)) b := by
  induction b with
  | zero => simp [sumU]
  | succ b ih => rw [← Nat.add_assoc, sumU_succ, ih, sumU_succ]; omega
theorem sumU_head (f : Nat → Nat) (k : Nat) : sumU f (k + 1) = f 0 + sumU (fun j => f (j + 1)) k := by
  rw [Nat.add_comm k 1, sumU_add]
  have : (fun i => f (1 + i)) = fun j => f (j + 1) := funext fun i => by rw [Nat.add_comm]
  rw [this]
  simp [sumU]
theorem sumU_one (n c : Nat) : sumU (fun _ => c) n = n * c := by
  induction n with
  | zero => simp [sumU]
  | succ n ih => rw [sumU_succ, ih, Nat.succ_mul]
theorem sumU_plus (f g : Nat → Nat) (n : Nat) : sumU (fun i => f i + g i) n = sumU f n + sumU g n := by
  induction n with
  | zero => rfl
  | succ n ih => rw [sumU_succ, sumU_succ, sumU_succ, ih]; omega
/-- Around the ring as along it. -/
theorem sum_turn (T : Tab) (f : Nat → Nat) {h : Nat} (hh : h < T.zs.length) : sumU (fun d => f (stepS T h d)) T.zs.length = sumU f T.zs.length := by
  have e1 : T.zs.length = (T.zs.length - h) + h := by omega
  have e2 : T.zs.length = h + (T.zs.length - h) := by omega
  have r1 : sumU (fun d => f (stepS T h d)) T.zs.length = sumU (fun d => f (h + d)) (T.zs.length - h) + sumU f h := by
    conv => lhs; rw [show sumU (fun d => f (stepS T h d)) T.zs.length = sumU (fun d => f (stepS T h d)) ((T.zs.length - h) + h) by rw [← e1]]
    rw [sumU_add]
    congr 1
    · exact sumU_congr fun i hi => by rw [step_eq hh (by omega), if_pos (by omega)]
    · exact sumU_congr fun i hi => by
        rw [step_eq hh (by omega), if_neg (by omega)]
        congr 1
        omega
  have r2 : sumU f T.zs.length = sumU f h + sumU (fun d => f (h + d)) (T.zs.length - h) := by
    conv => lhs; rw [show sumU f T.zs.length = sumU f (h + (T.zs.length - h)) by rw [← e2]]
    rw [sumU_add]
  omega

/-- 1 + 2 + .. + x. -/
def tri (x : Nat) : Nat := x * (x + 1) / 2
theorem tri_succ (x : Nat) : tri (x + 1) = tri x + x + 1 := by
  unfold tri
  have e : (x + 1) * (x + 1 + 1) = x * (x + 1) + 2 * (x + 1) := by simp only [Nat.mul_add, Nat.add_mul]; omega
  rw [e]
  generalize x * (x + 1) = y
  omega
theorem tri_zero : tri 0 = 0 := rfl

/-- Sums over the rest of a ring that ends at a free slot. -/
theorem run_sums (n : Nat) (z : Nat → Nat) (st : Nat → Bool) (h2 : ∀ d, d + 1 < n → z d ≠ 0 → z d = z (d + 1) + 1) (h3 : ∀ d, d + 1 < n → (st (d + 1) = true ↔ z (d + 1) ≠ 0 ∧ z d = 0)) (h4 : ∀ d, d + 1 = n → z d = 0) :
    ∀ k e, e + (k + 1) = n → sumU (fun j => z (e + j)) (k + 1) = sumU (fun j => if st (e + j) then tri (z (e + j)) else 0) (k + 1) + (if st e then 0 else tri (z e)) := by
  intro k
  induction k with
  | zero =>
    intro e he
    have := h4 e (by omega)
    simp [sumU, this, tri_zero]
  | succ k ih =>
    intro e he
    rw [sumU_head, sumU_head (fun j => if st (e + j) then tri (z (e + j)) else 0)]
    have E1 : (fun j => z (e + (j + 1))) = fun j => z (e + 1 + j) := funext fun j => by congr 1; omega
    have E2 : (fun j => if st (e + (j + 1)) then tri (z (e + (j + 1))) else 0) = fun j => if st (e + 1 + j) then tri (z (e + 1 + j)) else 0 := funext fun j => by
      rw [show e + (j + 1) = e + 1 + j by omega]
    rw [E1, E2, ih (e + 1) (by omega), Nat.add_zero]
    have a2 := h2 e (by omega)
    have a3 := h3 e (by omega)
    by_cases c : z e = 0
    · have t0 : tri (z e) = 0 := by rw [c]; rfl
      have : (if st (e + 1) then 0 else tri (z (e + 1))) = 0 := by
        by_cases c2 : z (e + 1) = 0
        · rw [c2, tri_zero]; split <;> rfl
        · rw [if_pos (a3.2 ⟨c2, c⟩)]
      rw [this, t0, c]
      simp
    · have hs : st (e + 1) = false := by
        cases hs : st (e + 1)
        · rfl
        · exact absurd (a3.1 hs).2 c
      have e4 := a2 c
      rw [hs, e4, tri_succ]
      simp only [Bool.false_eq_true, if_false]
      split <;> omega
theorem run_bound (n : Nat) (z : Nat → Nat) (h2 : ∀ d, d + 1 < n → z d ≠ 0 → z d = z (d + 1) + 1) (h4 : ∀ d, d + 1 = n → z d = 0) :
    ∀ k e, e + (k + 1) = n → z e ≤ sumU (fun j => if z (e + j) = 0 then 0 else 1) (k + 1) ∧ sumU (fun j => z (e + j)) (k + 1) ≤ tri (sumU (fun j => if z (e + j) = 0 then 0 else 1) (k + 1)) := by
  intro k
  induction k with
  | zero =>
    intro e he
    have := h4 e (by omega)
    simp [sumU, this]
  | succ k ih =>
    intro e he
    rw [sumU_head (fun j => z (e + j)), sumU_head (fun j => if z (e + j) = 0 then 0 else 1)]
    have E1 : (fun j => z (e + (j + 1))) = fun j => z (e + 1 + j) := funext fun j => by congr 1; omega
    have E2 : (fun j => if z (e + (j + 1)) = 0 then 0 else 1) = fun j => if z (e + 1 + j) = 0 then 0 else 1 := funext fun j => by
      rw [show e + (j + 1) = e + 1 + j by omega]
    rw [E1, E2, Nat.add_zero]
    obtain ⟨i1, i2⟩ := ih (e + 1) (by omega)
    have a2 := h2 e (by omega)
    by_cases c : z e = 0
    · rw [if_pos c, c]
      simp only [Nat.zero_add]
      exact ⟨Nat.zero_le _, i2⟩
    · rw [if_neg c]
      have e4 := a2 c
      generalize sumU (fun j => if z (e + 1 + j) = 0 then 0 else 1) (k + 1) = cc at i1 i2
      rw [Nat.add_comm 1 cc, tri_succ]
      omega

/-- What lies from a slot that is not free on. -/
theorem sizeU_next {T : Tab} {i f : Nat} (hi : i < T.zs.length) (hf : f < T.zs.length) (hff : nth T.zs f = -1) (h : nth T.zs i ≠ -1) : sizeFrom T i = sizeFrom T (stepS T i 1) + 1 := by
  have hn : 1 ≤ T.zs.length := by omega
  have hlt := size_lt (stepS_lt hn i 1) hf hff
  have hend := size_end hlt
  have hst : ∀ j, stepS T (stepS T i 1) j = stepS T i (1 + j) := fun j => by
    unfold stepS
    rw [Nat.mod_add_mod, Nat.add_assoc]
  have hb : sizeFrom T (stepS T i 1) + 1 < T.zs.length := by
    by_cases c : sizeFrom T (stepS T i 1) + 1 = T.zs.length
    · rw [hst, show 1 + sizeFrom T (stepS T i 1) = T.zs.length by omega] at hend
      have : stepS T i T.zs.length = i := by unfold stepS; rw [Nat.add_mod_right, Nat.mod_eq_of_lt hi]
      rw [this] at hend
      exact absurd hend h
    · omega
  refine goN_eq hb (fun j hj => ?_) ?_
  · by_cases c : j = 0
    · subst c
      have : stepS T i 0 = i := Nat.mod_eq_of_lt hi
      rw [this]; simpa using h
    · have := size_in (T := T) (i := stepS T i 1) (j := j - 1) (by omega)
      rw [hst, show 1 + (j - 1) = j by omega] at this
      simpa using this
  · rw [hst, Nat.add_comm 1] at hend
    simpa using hend
theorem sizeU_zero {T : Tab} {i : Nat} (hi : i < T.zs.length) (h : nth T.zs i = -1) : sizeFrom T i = 0 := by
  refine goN_eq (by omega) (fun j hj => by omega) ?_
  have : stepS T i 0 = i := Nat.mod_eq_of_lt hi
  rw [this]; simpa using h
theorem size_pos {T : Tab} {i : Nat} (h : sizeFrom T i ≠ 0) (hi : i < T.zs.length) : nth T.zs i ≠ -1 := fun e => h (sizeU_zero hi e)

/-- The misses where a slot is free: one more than what lies ahead. -/
theorem miss_size {T : Tab} {f : Nat} (hf : f < T.zs.length) (hff : nth T.zs f = -1) {i : Nat} (hi : i < T.zs.length) : missN T i = sizeFrom T i + 1 := by
  have := size_lt hi hf hff
  show min (sizeFrom T i + 1) T.zs.length = _
  omega
theorem miss_full {T : Tab} (hno : ∀ i, i < T.zs.length → nth T.zs i ≠ -1) (i : Nat) (hn : 1 ≤ T.zs.length) : missN T i = T.zs.length :=
  cntN_all fun j _ => by
    have := hno _ (stepS_lt hn i j)
    simpa [freeAt] using this
theorem missTo_sum (T : Tab) (k : Nat) : missTo T k = sumU (missN T) k := rfl
theorem miss_total_full {T : Tab} (hno : ∀ i, i < T.zs.length → nth T.zs i ≠ -1) : missTo T T.zs.length = T.zs.length * T.zs.length := by
  rw [missTo_sum, sumU_congr (g := fun _ => T.zs.length) fun i hi => miss_full hno i (by omega), sumU_one]
theorem miss_total {T : Tab} {f : Nat} (hf : f < T.zs.length) (hff : nth T.zs f = -1) : missTo T T.zs.length = T.zs.length + sumU (sizeFrom T) T.zs.length := by
  rw [missTo_sum, sumU_congr (g := fun i => 1 + sizeFrom T i) fun i hi => by rw [miss_size hf hff hi, Nat.add_comm], sumU_plus, sumU_one, Nat.mul_one]

/-- The ring from behind a free slot on. -/
theorem ring_from {T : Tab} {f : Nat} (hf : f < T.zs.length) (hff : nth T.zs f = -1) :
    (∀ d, d + 1 < T.zs.length → sizeFrom T (stepS T (stepS T f 1) d) ≠ 0 → sizeFrom T (stepS T (stepS T f 1) d) = sizeFrom T (stepS T (stepS T f 1) (d + 1)) + 1) ∧
    (∀ d, d + 1 = T.zs.length → sizeFrom T (stepS T (stepS T f 1) d) = 0) := by
  have hn : 1 ≤ T.zs.length := by omega
  have hst : ∀ h j k, stepS T (stepS T h j) k = stepS T h (j + k) := fun h j k => by
    unfold stepS
    rw [Nat.mod_add_mod, Nat.add_assoc]
  refine ⟨fun d _ h => ?_, fun d hd => ?_⟩
  · have hp := size_pos h (stepS_lt hn _ _)
    rw [sizeU_next (stepS_lt hn _ _) hf hff hp, hst (stepS T f 1) d 1]
  · rw [hst, show 1 + d = T.zs.length by omega]
    have : stepS T f T.zs.length = f := by unfold stepS; rw [Nat.add_mod_right, Nat.mod_eq_of_lt hf]
    rw [this, sizeU_zero hf hff]

theorem sum_filter (p : Nat → Bool) (f : Nat → Nat) (n : Nat) : (((List.range n).filter p).map f).sum = sumU (fun i => if p i then f i else 0) n := by
  induction n with
  | zero => rfl
  | succ n ih =>
    rw [List.range_succ, List.filter_append, List.map_append, List.sum_append, ih, sumU_succ]
    cases h : p n <;> simp [h]

/-- Runs tell what is visited in vain. -/
theorem miss_runs {T : Tab} {f : Nat} (hf : f < T.zs.length) (hff : nth T.zs f = -1) : missTo T T.zs.length = T.zs.length + ((runsL T).map fun r => tri r.2).sum := by
  have hn : 1 ≤ T.zs.length := by omega
  have hst : ∀ h j k, stepS T (stepS T h j) k = stepS T h (j + k) := fun h j k => by
    unfold stepS
    rw [Nat.mod_add_mod, Nat.add_assoc]
  obtain ⟨r2, r4⟩ := ring_from hf hff
  rw [miss_total hf hff, runs_some hn hf hff]
  congr 1
  unfold runsTo
  rw [List.map_map, sum_filter (startB T) ((fun r : Nat × Nat => tri r.2) ∘ fun i => (i, sizeFrom T i))]
  have hh := stepS_lt (T := T) hn f 1
  rw [← sum_turn T (sizeFrom T) hh, ← sum_turn T (fun i => if startB T i then ((fun r : Nat × Nat => tri r.2) ∘ fun i => (i, sizeFrom T i)) i else 0) hh]
  have hprev : ∀ d, prevS T (stepS T (stepS T f 1) d) = stepS T f d := fun d => by
    unfold prevS stepS
    have h1 : ((f + 1) % T.zs.length + d) % T.zs.length = (f + d + 1) % T.zs.length := by rw [Nat.mod_add_mod]; congr 1; omega
    rw [h1]
    have hc : (f + d + 1) % T.zs.length = if (f + d) % T.zs.length + 1 = T.zs.length then 0 else (f + d) % T.zs.length + 1 := by
      have := Nat.mod_lt (f + d) (show 0 < T.zs.length by omega)
      rw [← Nat.mod_add_mod]
      split
      · rename_i e; rw [e, Nat.mod_self]
      · exact Nat.mod_eq_of_lt (by omega)
    have hl := Nat.mod_lt (f + d) (show 0 < T.zs.length by omega)
    rw [hc]
    split
    · rw [Nat.zero_add, Nat.mod_eq_of_lt (by omega)]; omega
    · rw [show (f + d) % T.zs.length + 1 + T.zs.length - 1 = (f + d) % T.zs.length + T.zs.length by omega, Nat.add_mod_right, Nat.mod_eq_of_lt hl]
  have hstart : ∀ d, startB T (stepS T (stepS T f 1) d) = true ↔ (sizeFrom T (stepS T (stepS T f 1) d) ≠ 0 ∧ nth T.zs (stepS T f d) = -1) := fun d => by
    rw [startB_free hn hf hff (stepS_lt hn _ _), hprev]
    have hz : sizeFrom T (stepS T (stepS T f 1) d) ≠ 0 ↔ nth T.zs (stepS T (stepS T f 1) d) ≠ -1 :=
      ⟨fun h => size_pos h (stepS_lt hn _ _), fun h e => by rw [sizeU_next (stepS_lt hn _ _) hf hff h] at e; omega⟩
    rw [hz]
    simp
  have hS := run_sums T.zs.length (fun d => sizeFrom T (stepS T (stepS T f 1) d)) (fun d => startB T (stepS T (stepS T f 1) d)) r2 (fun d _ => by
    rw [hstart (d + 1), hst f 1 (d + 1), show f = f from rfl, Nat.add_comm d 1, ← hst f 1 d]
    constructor
    · rintro ⟨a, b⟩; exact ⟨a, sizeU_zero (stepS_lt hn _ _) b⟩
    · rintro ⟨a, b⟩
      refine ⟨a, ?_⟩
      by_cases c : nth T.zs (stepS T (stepS T f 1) d) = -1
      · exact c
      · rw [sizeU_next (stepS_lt hn _ _) hf hff c] at b
        omega) r4 (T.zs.length - 1) 0 (by omega)
  rw [show T.zs.length - 1 + 1 = T.zs.length by omega] at hS
  simp only [Nat.zero_add] at hS
  rw [hS]
  have h00 : (if startB T (stepS T (stepS T f 1) 0) then 0 else tri (sizeFrom T (stepS T (stepS T f 1) 0))) = 0 := by
    split
    · rfl
    · rename_i hns
      have : ¬ (sizeFrom T (stepS T (stepS T f 1) 0) ≠ 0) := fun h => hns ((hstart 0).2 ⟨h, by
        have : stepS T f 0 = f := Nat.mod_eq_of_lt hf
        rw [this]; exact hff⟩)
      rw [show sizeFrom T (stepS T (stepS T f 1) 0) = 0 by omega, tri_zero]
  rw [h00]
  rfl
theorem miss_spread {T : Tab} {f : Nat} (hf : f < T.zs.length) (hff : nth T.zs f = -1) {k : Nat} (hk : sumU (fun i => if nth T.zs i = -1 then 0 else 1) T.zs.length = k) :
    T.zs.length + k ≤ missTo T T.zs.length ∧ missTo T T.zs.length ≤ T.zs.length + tri k := by
  have hn : 1 ≤ T.zs.length := by omega
  obtain ⟨r2, r4⟩ := ring_from hf hff
  have hh := stepS_lt (T := T) hn f 1
  have hz : ∀ i, i < T.zs.length → ((if nth T.zs i = -1 then 0 else 1) = if sizeFrom T i = 0 then 0 else 1) := fun i hi => by
    by_cases c : nth T.zs i = -1
    · rw [if_pos c, if_pos (sizeU_zero hi c)]
    · rw [if_neg c, if_neg (by rw [sizeU_next hi hf hff c]; omega)]
  rw [sumU_congr hz] at hk
  rw [miss_total hf hff]
  have hb := (run_bound T.zs.length (fun d => sizeFrom T (stepS T (stepS T f 1) d)) r2 r4 (T.zs.length - 1) 0 (by omega)).2
  rw [show T.zs.length - 1 + 1 = T.zs.length by omega] at hb
  simp only [Nat.zero_add] at hb
  rw [sum_turn T (sizeFrom T) hh, sum_turn T (fun i => if sizeFrom T i = 0 then 0 else 1) hh, hk] at hb
  refine ⟨?_, by omega⟩
  have hle : ∀ n, sumU (fun i => if sizeFrom T i = 0 then 0 else 1) n ≤ sumU (sizeFrom T) n := fun n => by
    induction n with
    | zero => exact Nat.le_refl _
    | succ n ih =>
      rw [sumU_succ, sumU_succ]
      have : (if sizeFrom T n = 0 then 0 else 1) ≤ sizeFrom T n := by split <;> omega
      omega
  have := hle T.zs.length
  omega

end Go.Proofs.YtpncpeokdcolpaaGreatDoor

namespace Go.Proofs.YtpncpeokdcolpaaGreatDoor

theorem size_inner {T : Tab} {p f : Nat} (hf : f < T.zs.length) (hff : nth T.zs f = -1) {d : Nat} (hp : p < T.zs.length) (hd : d ≤ sizeFrom T p) : sizeFrom T (stepS T p d) + d = sizeFrom T p := by
  have hn : 1 ≤ T.zs.length := by omega
  induction d with
  | zero => rw [show stepS T p 0 = p from Nat.mod_eq_of_lt hp]; rfl
  | succ d ih =>
    have h1 := ih (by omega)
    have h2 := size_in (T := T) (i := p) (j := d) (by omega)
    have h3 := sizeU_next (stepS_lt hn p d) hf hff h2
    have h4 : stepS T (stepS T p d) 1 = stepS T p (d + 1) := by
      unfold stepS
      rw [Nat.mod_add_mod, Nat.add_assoc]
    rw [h4] at h3
    omega
/-- What is visited from a slot of a run on. -/
theorem miss_inner {T : Tab} {p f s : Nat} (hf : f < T.zs.length) (hff : nth T.zs f = -1) (hp : p < T.zs.length) (hs : s < T.zs.length) (hd : (s + T.zs.length - p) % T.zs.length < sizeFrom T p) :
    missN T s + (s + T.zs.length - p) % T.zs.length = sizeFrom T p + 1 := by
  have h1 := size_inner hf hff hp (d := (s + T.zs.length - p) % T.zs.length) (by omega)
  rw [(step_away hp hs).1] at h1
  rw [miss_size hf hff hs]
  omega
theorem miss_free {T : Tab} {f : Nat} (hf : f < T.zs.length) (hff : nth T.zs f = -1) : missN T f = 1 := by
  rw [miss_size hf hff hf, sizeU_zero hf hff]

theorem worst_to (T : Tab) (k : Nat) : (∀ i, i < k → missN T i ≤ missN T (worstTo T k)) ∧ (∀ i, i < worstTo T k → missN T i < missN T (worstTo T k)) := by
  induction k with
  | zero => exact ⟨fun i hi => by omega, fun i hi => by simp [worstTo] at hi⟩
  | succ k ih =>
    obtain ⟨h1, h2⟩ := ih
    by_cases c : missN T (worstTo T k) < missN T k
    · have e : worstTo T (k + 1) = k := by simp [worstTo, c]
      rw [e]
      refine ⟨fun i hi => ?_, fun i hi => ?_⟩
      · by_cases ci : i = k
        · subst ci; exact Nat.le_refl _
        · have := h1 i (by omega); omega
      · have := h1 i hi; omega
    · have e : worstTo T (k + 1) = worstTo T k := by simp [worstTo, c]
      rw [e]
      refine ⟨fun i hi => ?_, h2⟩
      by_cases ci : i = k
      · subst ci; omega
      · exact h1 i (by omega)
/-- A run opens where most is visited. -/
theorem worst_opens {T : Tab} {f p w : Nat} (hf : f < T.zs.length) (hff : nth T.zs f = -1) (hw : w = worstTo T T.zs.length) (hp : p < T.zs.length) (hd : (w + T.zs.length - p) % T.zs.length < sizeFrom T p) : p = w := by
  have hwl : w < T.zs.length := by subst hw; exact worstTo_lt (by omega)
  have h1 := miss_inner hf hff hp hwl hd
  have h2 := miss_size hf hff hp
  have h3 := (worst_to T T.zs.length).1 p hp
  rw [← hw] at h3
  have h0 : (w + T.zs.length - p) % T.zs.length = 0 := by omega
  by_cases c : p ≤ w
  · rw [show w + T.zs.length - p = w - p + T.zs.length by omega, Nat.add_mod_right, Nat.mod_eq_of_lt (by omega)] at h0
    omega
  · rw [Nat.mod_eq_of_lt (by omega)] at h0
    omega

/-- Where a key is not there, it is looked for up to a free slot. -/
theorem vis_miss {T : Tab} {key : Int} (h : key ∉ T.zs) (hn : 1 ≤ T.zs.length) (i : Nat) : visN T key i = missN T i := by
  have : stopAt T key i = freeAt T i := funext fun d => by
    have : nth T.zs (stepS T i d) ≠ key := fun e => h (e ▸ nth_mem (stepS_lt hn i d))
    simp [stopAt, freeAt, this]
  unfold visN missN cntN
  rw [this]

theorem goN_mono {p q : Nat → Bool} {n : Nat} (h : ∀ d, d < n → p d = true → q d = true) : goN q n ≤ goN p n := by
  by_cases c : goN p n < n
  · refine Nat.le_of_not_lt fun hlt => ?_
    have h1 := goN_stop c
    have h2 := goN_free hlt
    rw [h _ c h1] at h2
    cases h2
  · have := goN_le q n
    have := goN_le p n
    omega

end Go.Proofs.YtpncpeokdcolpaaGreatDoor

namespace Go.Proofs.YtpncpeokdcolpaaGreatDoor

def mostTo (T : Tab) : Nat → Int
  | 0 => 0
  | j + 1 => max (mostTo T j) (awayOf T j)
def totTo (T : Tab) : Nat → Int
  | 0 => 0
  | j + 1 => totTo T j + max (awayOf T j) 0
def mostAway (T : Tab) : Int := if validB T then mostTo T T.zs.length else -1
def totalAway (T : Tab) : Int := if validB T then totTo T T.zs.length else -1

theorem awayOf_bounds (T : Tab) (s : Int) (hl : T.zs.length ≤ 16) : -1 ≤ awayOf T s ∧ awayOf T s ≤ 15 := by
  unfold awayOf
  split
  · rename_i h
    simp only [Bool.and_eq_true, decide_eq_true_eq] at h
    obtain ⟨⟨hv, _⟩, _⟩ := h
    obtain ⟨⟨l1, _⟩, _⟩ := valid_facts hv
    have h1 := Int.emod_nonneg (s - homeI T (nth T.zs s.toNat)) (b := (T.zs.length : Int)) (by omega)
    have h2 := Int.emod_lt_of_pos (s - homeI T (nth T.zs s.toNat)) (b := (T.zs.length : Int)) (by omega)
    omega
  · omega
theorem mostTo_bounds (T : Tab) (hl : T.zs.length ≤ 16) (j : Nat) : 0 ≤ mostTo T j ∧ mostTo T j ≤ 15 := by
  induction j with
  | zero => simp [mostTo]
  | succ j ih =>
    have := awayOf_bounds T j hl
    simp only [mostTo]; omega
theorem totTo_bounds (T : Tab) (hl : T.zs.length ≤ 16) (j : Nat) : 0 ≤ totTo T j ∧ totTo T j ≤ 15 * j := by
  induction j with
  | zero => simp [totTo]
  | succ j ih =>
    have := awayOf_bounds T j hl
    simp only [totTo]; omega

end Go.Proofs.YtpncpeokdcolpaaGreatDoor

namespace Go.Proofs.YtpncpeokdcolpaaGreatDoor

theorem near_ahead {T : Tab} {h d : Nat} {key : Int} (hn : nearAt T h d = true) : aheadB T (stepS T h d) key d = false := by
  unfold nearAt at hn
  have := of_decide_eq_true hn
  unfold aheadB
  rw [beq_eq_false_iff_ne.2 (by omega)]
  simp; omega
theorem near_free {T : Tab} {h d : Nat} (hf : nth T.zs (stepS T h d) < 0) : nearAt T h d = true := by
  unfold nearAt
  rw [free_away hf]
  exact decide_eq_true (by omega)
theorem step_back {T : Tab} {h g d : Nat} (hh : h < T.zs.length) (hg : g < T.zs.length) (hd : d < T.zs.length) (e : stepS T h d = stepS T g d) : h = g := by
  rw [step_eq hh (by omega), step_eq hg (by omega)] at e
  split at e <;> split at e <;> omega
theorem ahead_near {T : Tab} (hv : validB T = true) {h d : Nat} {key : Int} (hh : h < T.zs.length) (hd : d < T.zs.length) (hm : ∀ i, i < T.zs.length → nth T.zs i < key ∨ homeN T (nth T.zs i) ≠ h)
    (ha : aheadB T (stepS T h d) key d = false) : nearAt T h d = true := by
  have hs := stepS_lt (T := T) (by omega) h d
  unfold nearAt
  refine decide_eq_true ?_
  rw [ahead_if] at ha
  split at ha
  · rename_i e
    by_cases h0 : nth T.zs (stepS T h d) < 0
    · rw [free_away h0] at e; omega
    · obtain ⟨e1, e2, e3⟩ := away_self hv hs (by omega)
      have hk := of_decide_eq_false ha
      have ew : awN T T.zs (stepS T h d) = d := by omega
      rw [ew] at e3
      have := step_back (homeN_lt hv _) hh hd e3
      rcases hm _ hs with h1 | h1
      · omega
      · exact absurd this h1
  · have := of_decide_eq_false ha
    omega
theorem fmiss_end {T : Tab} (hf : fairB T = true) {h : Nat} (hh : h < T.zs.length) : fmissN T h = goN (nearAt T h) T.zs.length + 1 := by
  obtain ⟨_, hfm, _⟩ := fair_parts hf
  obtain ⟨d, hd, e⟩ := free_step hh hfm
  have hlt : goN (nearAt T h) T.zs.length < T.zs.length := by
    refine Nat.lt_of_not_le fun hn => ?_
    have := goN_free (p := nearAt T h) (n := T.zs.length) (j := d) (by omega)
    rw [near_free (by omega)] at this
    cases this
  unfold fmissN cntN
  omega
theorem fmiss_vis {T : Tab} (hf : fairB T = true) {key : Int} (hk : inB key 0 99 = true) (hh : homeN T key < T.zs.length) : fairVis T key ≤ fmissN T (homeN T key) := by
  have h1 := goN_mono (p := nearAt T (homeN T key)) (q := fun d => !aheadB T (stepS T (homeN T key) d) key d) (n := T.zs.length) fun d _ h => by simp [near_ahead h]
  rw [fmiss_end hf hh]
  simp only [fairVis, hf, hk, Bool.and_self, if_true]
  unfold passN
  omega
theorem fmiss_most {T : Tab} (hf : fairB T = true) (hv : validB T = true) {key : Int} (hk : inB key 0 99 = true) (hh : homeN T key < T.zs.length) (hm : ∀ i, i < T.zs.length → nth T.zs i < key ∨ homeN T (nth T.zs i) ≠ homeN T key) : fairVis T key = fmissN T (homeN T key) := by
  have h1 := goN_mono (p := nearAt T (homeN T key)) (q := fun d => !aheadB T (stepS T (homeN T key) d) key d) (n := T.zs.length) fun d _ h => by simp [near_ahead h]
  have h2 := goN_mono (p := fun d => !aheadB T (stepS T (homeN T key) d) key d) (q := nearAt T (homeN T key)) (n := T.zs.length) fun d hd h => ahead_near hv hh hd hm (by simpa using h)
  rw [fmiss_end hf hh]
  simp only [fairVis, hf, hk, Bool.and_self, if_true]
  unfold passN
  omega
theorem fmiss_le {T : Tab} (h : Nat) : fmissN T h ≤ missN T h := by
  have := goN_mono (p := freeAt T h) (q := nearAt T h) (n := T.zs.length) fun d _ hd => near_free (by
    have : nth T.zs (stepS T h d) = -1 := by simpa [freeAt] using hd
    omega)
  unfold fmissN missN cntN
  omega
theorem most_ge {T : Tab} {j i : Nat} (h : i < j) : awayOf T i ≤ mostTo T j := by
  induction j with
  | zero => omega
  | succ j ih =>
    simp only [mostTo]
    by_cases c : i = j
    · subst c; omega
    · have := ih (by omega); omega
theorem fmiss_away {T : Tab} (hf : fairB T = true) (l2 : T.zs.length ≤ 16) {h : Nat} (hh : h < T.zs.length) : (fmissN T h : Int) ≤ mostTo T T.zs.length + 2 := by
  have h0 := (mostTo_bounds T l2 T.zs.length).1
  rw [fmiss_end hf hh]
  by_cases c : goN (nearAt T h) T.zs.length = 0
  · rw [c]; omega
  · have h1 := goN_free (p := nearAt T h) (n := T.zs.length) (j := goN (nearAt T h) T.zs.length - 1) (by omega)
    have h2 := most_ge (T := T) (stepS_lt (T := T) (by omega) h (goN (nearAt T h) T.zs.length - 1))
    have := of_decide_eq_false (show decide (awayOf T (stepS T h (goN (nearAt T h) T.zs.length - 1) : Nat) < ((goN (nearAt T h) T.zs.length - 1 : Nat) : Int)) = false from h1)
    omega

/-- No key with this home in the first j slots is as great. -/
def topB (T : Tab) (k h : Int) (j : Nat) : Bool := (List.range j).all fun i => decide (nth T.zs i < k) || !(homeOf T (nth T.zs i) == h)
theorem topB_succ (T : Tab) (k h : Int) (j : Nat) : topB T k h (j + 1) = (topB T k h j && (decide (nth T.zs j < k) || !(homeOf T (nth T.zs j) == h))) := by
  simp [topB, List.range_succ]
theorem topB_zero (T : Tab) (k h : Int) : topB T k h 0 = true := rfl
structure FairMissSays (T : Tab) (h : Nat) : Prop where
  low : ∀ k : Nat, k ≤ 99 → homeOf T (k : Int) = (h : Int) → fairVis T (k : Int) ≤ fmissN T h
  top : ∀ k : Nat, k ≤ 99 → homeOf T (k : Int) = (h : Int) → topB T k h T.zs.length = true → fairVis T (k : Int) = fmissN T h
  miss : missI T h = missN T h ∧ fmissN T h ≤ missN T h
  most : (fmissN T h : Int) ≤ mostAway T + 2 ∧ 0 ≤ mostAway T ∧ mostAway T ≤ 15
  size : fmissN T h ≤ 16 ∧ T.zs.length ≤ 16
theorem fairmiss_says {T : Tab} (hf : fairB T = true) {h : Nat} (hh : h < T.zs.length) : FairMissSays T h := by
  obtain ⟨hp, _, _⟩ := fair_parts hf
  obtain ⟨_, hv, _⟩ := plain_parts hp
  obtain ⟨⟨l1, l2⟩, _⟩ := valid_facts hv
  have hhome : ∀ k : Nat, k ≤ 99 → homeOf T (k : Int) = (h : Int) → homeN T (k : Int) = h := fun k hk e => by
    have hkb : inB (k : Int) 0 99 = true := inB_true (by omega)
    have he := homeN_eq hv (k : Int)
    rw [← homeOf_yes hv hkb, ← he] at e
    omega
  have hb : inB (h : Int) 0 (T.zs.length - 1) = true := inB_true (by omega)
  have hmb := mostTo_bounds T l2 T.zs.length
  have hma : mostAway T = mostTo T T.zs.length := by simp [mostAway, hv]
  have hcb := (cntN_bounds (p := nearAt T h) l1).2
  refine ⟨fun k hk e => ?_, fun k hk e ht => ?_, ⟨by simp [missI, hv, hb], fmiss_le h⟩, ⟨by rw [hma]; exact fmiss_away hf l2 hh, by omega, by omega⟩, by unfold fmissN; omega, l2⟩
  · have h1 := hhome k hk e
    have := fmiss_vis hf (key := (k : Int)) (inB_true (by omega)) (by rw [h1]; exact hh)
    rw [h1] at this
    exact this
  · have h1 := hhome k hk e
    have := fmiss_most hf hv (key := (k : Int)) (inB_true (by omega)) (by rw [h1]; exact hh) fun i hi => by
      have ht2 := (List.all_eq_true.1 ht) i (List.mem_range.2 hi)
      by_cases c : nth T.zs i < (k : Int)
      · exact .inl c
      · right
        have hs := valid_slot hv hi
        have hib : inB (nth T.zs i) 0 99 = true := inB_true (by omega)
        have he := homeN_eq hv (nth T.zs i)
        rw [homeOf_yes hv hib] at he
        intro e2
        rw [h1] at e2
        rw [e2] at he
        rw [← he] at ht2
        simp [c] at ht2
    rw [h1] at this
    exact this

end Go.Proofs.YtpncpeokdcolpaaGreatDoor

namespace Go.Proofs.YtpncpeokdcolpaaGreatDoor

theorem sumU_ge {f : Nat → Nat} {L : Nat} : ∀ n, L ≤ n → (∀ d, d < L → f d = 1) → L ≤ sumU f n := by
  have h1 : ∀ L, (∀ d, d < L → f d = 1) → sumU f L = L := fun L => by
    induction L with
    | zero => intro _; rfl
    | succ L ih => intro h; rw [sumU_succ, ih fun d hd => h d (by omega), h L (by omega)]
  intro n hn h
  obtain ⟨e, rfl⟩ : ∃ e, n = L + e := ⟨n - L, by omega⟩
  rw [sumU_add, h1 L h]
  omega
theorem sumU_few {f : Nat → Nat} {m : Nat} : ∀ n, (∀ d, d < n → f d ≤ 1) → (∀ d, d < n → m ≤ d → f d = 0) → sumU f n ≤ m := by
  intro n
  induction n with
  | zero => intro _ _; simp [sumU]
  | succ n ih =>
    intro h1 h2
    rw [sumU_succ]
    have i1 := ih (fun d hd => h1 d (by omega)) (fun d hd => h2 d (by omega))
    by_cases c : m ≤ n
    · rw [h2 n (by omega) c]; omega
    · have h3 : ∀ k, k ≤ n → sumU f k ≤ k := fun k => by
        induction k with
        | zero => intro _; simp [sumU]
        | succ k ihk => intro hk; rw [sumU_succ]; have := ihk (by omega); have := h1 k (by omega); omega
      have := h3 n (Nat.le_refl _)
      have := h1 n (by omega)
      omega
theorem sumU_countP (q : Int → Bool) (zs : List Int) : sumU (fun i => if q (nth zs i) then 1 else 0) zs.length = zs.countP q := by
  have h : ∀ k, k ≤ zs.length → sumU (fun i => if q (nth zs i) then 1 else 0) k = cnt q zs k := fun k => by
    induction k with
    | zero => intro _; simp [sumU, cnt_zero]
    | succ k ih => intro hk; rw [sumU_succ, ih (by omega), cnt_succ (x := nth zs k) (by omega) rfl]
  rw [h _ (Nat.le_refl _)]
  unfold cnt
  rw [List.take_length]
/-- Keys are counted in whatever order they lie. -/
theorem countP_keys {q : Int → Bool} (hq : ∀ x, q x = true → inB x 0 99 = true) {zs : List Int} (h : Good zs zs.length) : zs.countP q = (sortU zs).countP q := by
  have hp : (zs.filter fun x => inB x 0 99).Perm (sortU zs) := by
    rw [← sort_keys h]
    exact (List.mergeSort_perm _ _).symm
  rw [← hp.countP_eq q, List.countP_filter]
  congr 1
  funext x
  cases hx : q x
  · rfl
  · rw [hq x hx]; rfl

/-- What is asked of a row of slots: all keys are found, there are no tombs, and a slot is free. -/
structure PlainZ (T : Tab) (zs : List Int) : Prop where
  val : validB (tab T zs) = true
  len : zs.length = T.zs.length
  one : 1 ≤ T.zs.length
  key : ∀ i, i < T.zs.length → nth zs i ≠ -1 → 0 ≤ nth zs i ∧ nth zs i ≤ 99
  at_ : ∀ i, i < T.zs.length → 0 ≤ nth zs i → awN T zs i < T.zs.length ∧ stepS T (homeN T (nth zs i)) (awN T zs i) = i
  way : ∀ i, i < T.zs.length → 0 ≤ nth zs i → ∀ m, m ≤ awN T zs i → nth zs (stepS T (homeN T (nth zs i)) m) ≠ -1
  home : ∀ x, homeN T x < T.zs.length
  good : Good zs T.zs.length
theorem plainZ {T : Tab} {zs : List Int} (hp : plainB (tab T zs) = true) (hl : zs.length = T.zs.length) : PlainZ T zs := by
  obtain ⟨hs, hv, ht⟩ := plain_parts hp
  obtain ⟨⟨l1, l2⟩, _, _, hg⟩ := valid_facts hv
  have e0 : (tab T zs).zs.length = T.zs.length := hl
  have hst : ∀ h m, stepS (tab T zs) h m = stepS T h m := fun h m => by simp [stepS, tab, hl]
  have hat : ∀ i, i < T.zs.length → 0 ≤ nth zs i → awN T zs i < T.zs.length ∧ stepS T (homeN T (nth zs i)) (awN T zs i) = i := fun i hi h0 => by
    have hh : homeN T (nth zs i) < T.zs.length := by
      have := homeN_lt hv (nth zs i)
      rw [tab_home hl, e0] at this; exact this
    refine ⟨dst_lt hh hi, ?_⟩
    have hd := dst_lt hh hi
    rw [fwd_step hh (by unfold awN; omega)]
    exact fwd_dst hh hi
  refine ⟨hv, hl, by omega, fun i hi hne => plain_key hp (i := i) (by rw [e0]; exact hi) hne, hat, fun i hi h0 m hm => ?_, fun x => ?_, by rw [← hl]; exact hg⟩
  · obtain ⟨a1, a2⟩ := hat i hi h0
    by_cases c : m = awN T zs i
    · rw [c, a2]; omega
    · have hf := sound_find hs (i := i) (by rw [e0]; exact hi) h0
      have hfi : 0 ≤ findI (tab T zs) (nth zs i) := by have : findI (tab T zs) (nth zs i) = i := hf; omega
      have := (found_iff hv (key := nth zs i) (j := awN T zs i) (by rw [e0]; exact a1) (by rw [tab_home hl, hst, a2]; rfl) h0).1 hfi m (by omega)
      rw [tab_home hl, hst] at this
      exact this
  · have := homeN_lt hv x
    rw [tab_home hl, e0] at this; exact this

/-- A key whose home lies less than L slots behind slot s. -/
def winQ (T : Tab) (s L : Nat) (x : Int) : Bool := inB x 0 99 && decide (dst T.zs.length (homeN T x) s < L)
theorem step_step (T : Tab) (h j k : Nat) : stepS T (stepS T h j) k = stepS T h (j + k) := by
  unfold stepS
  rw [Nat.mod_add_mod, Nat.add_assoc]
theorem dst_step {T : Tab} {h m : Nat} (hh : h < T.zs.length) (hm : m < T.zs.length) : dst T.zs.length h (stepS T h m) = m := by
  rw [fwd_step hh (by omega)]
  exact dst_fwd hh hm
theorem step_dst {T : Tab} {h s : Nat} (hh : h < T.zs.length) (hs : s < T.zs.length) : stepS T h (dst T.zs.length h s) = s := by
  rw [fwd_step hh (Nat.le_of_lt (dst_lt hh hs))]
  exact fwd_dst hh hs

/-- The last free slot ahead of one that is taken. -/
theorem free_ahead {T : Tab} {zs : List Int} {f : Nat} (hf : nth zs (stepS T f 0) = -1) : ∀ t, nth zs (stepS T f t) ≠ -1 → ∃ u, u < t ∧ nth zs (stepS T f u) = -1 ∧ ∀ v, u < v → v ≤ t → nth zs (stepS T f v) ≠ -1 := by
  intro t
  induction t with
  | zero => intro h; exact absurd hf h
  | succ t ih =>
    intro h
    by_cases c : nth zs (stepS T f t) = -1
    · exact ⟨t, by omega, c, fun v h1 h2 => by rw [show v = t + 1 by omega]; exact h⟩
    · obtain ⟨u, u1, u2, u3⟩ := ih c
      exact ⟨u, by omega, u2, fun v h1 h2 => by
        by_cases e : v = t + 1
        · rw [e]; exact h
        · exact u3 v h1 (by omega)⟩

theorem occ_yes {T : Tab} {zs : List Int} (P : PlainZ T zs) {f : Nat} (hf : f < T.zs.length) (hff : nth zs f = -1) {s : Nat} (hs : s < T.zs.length) (h : nth zs s ≠ -1) :
    ∃ L, 1 ≤ L ∧ L ≤ T.zs.length ∧ L ≤ zs.countP (winQ T s L) := by
  have hn := P.one
  have f0 : stepS T f 0 = f := Nat.mod_eq_of_lt hf
  have es := step_dst hf hs
  have ht := dst_lt hf hs
  obtain ⟨u, u1, u2, u3⟩ := free_ahead (T := T) (zs := zs) (f := f) (by rw [f0]; exact hff) (dst T.zs.length f s) (by rw [es]; exact h)
  generalize dst T.zs.length f s = t at es ht u1 u3
  refine ⟨t - u, by omega, by omega, ?_⟩
  rw [← sumU_countP, P.len, ← sum_turn T (fun i => if winQ T s (t - u) (nth zs i) then 1 else 0) (h := stepS T f (u + 1)) (stepS_lt hn _ _)]
  refine sumU_ge _ (by omega) fun d hd => ?_
  have hsl := stepS_lt (T := T) hn f (u + 1 + d)
  have hne := u3 (u + 1 + d) (by omega) (by omega)
  rw [step_step]
  obtain ⟨k0, k9⟩ := P.key _ hsl hne
  obtain ⟨a1, a2⟩ := P.at_ _ hsl k0
  have hw := P.way _ hsl k0
  have hh := P.home (nth zs (stepS T f (u + 1 + d)))
  generalize awN T zs (stepS T f (u + 1 + d)) = a at a1 a2 hw
  generalize hx : nth zs (stepS T f (u + 1 + d)) = x at k0 k9 a2 hw hh
  have had : a ≤ d := by
    refine Nat.le_of_not_lt fun hlt => ?_
    have h1 := hw (a - (d + 1)) (by omega)
    have h2 : stepS T (stepS T (homeN T x) (a - (d + 1))) (d + 1) = stepS T (stepS T f u) (d + 1) := by
      rw [step_step, step_step, show a - (d + 1) + (d + 1) = a by omega, a2]
      congr 1; omega
    have h3 := step_back (stepS_lt hn _ _) (stepS_lt hn _ _) (by omega) h2
    rw [h3] at h1
    exact h1 u2
  have e1 : s = stepS T (homeN T x) (a + (t - u - 1 - d)) := by
    rw [← step_step, a2, step_step, ← es]
    congr 1; omega
  have e2 : dst T.zs.length (homeN T x) s = a + (t - u - 1 - d) := by rw [e1]; exact dst_step hh (by omega)
  rw [if_pos]
  unfold winQ
  rw [inB_true ⟨k0, k9⟩, e2]
  simp; omega
theorem occ_no {T : Tab} {zs : List Int} (P : PlainZ T zs) {s : Nat} (hs : s < T.zs.length) (h : nth zs s = -1) {L : Nat} (h1 : 1 ≤ L) (h2 : L ≤ T.zs.length) : zs.countP (winQ T s L) < L := by
  have hn := P.one
  have hw0 : stepS T (stepS T s (T.zs.length + 1 - L)) (L - 1) = s := by
    rw [step_step, show T.zs.length + 1 - L + (L - 1) = T.zs.length by omega]
    unfold stepS; rw [Nat.add_mod_right, Nat.mod_eq_of_lt hs]
  have hwl := stepS_lt (T := T) hn s (T.zs.length + 1 - L)
  generalize stepS T s (T.zs.length + 1 - L) = w0 at hw0 hwl
  rw [← sumU_countP, P.len, ← sum_turn T (fun i => if winQ T s L (nth zs i) then 1 else 0) (h := w0) hwl]
  have hle : sumU (fun d => if winQ T s L (nth zs (stepS T w0 d)) then 1 else 0) T.zs.length ≤ L - 1 := by
    refine sumU_few _ (fun d _ => by split <;> omega) fun d hd hLd => ?_
    rw [if_neg]
    intro hq
    unfold winQ at hq
    simp only [Bool.and_eq_true, decide_eq_true_eq] at hq
    obtain ⟨hk, he⟩ := hq
    obtain ⟨k0, k9⟩ := inB_iff.1 hk
    have hsl := stepS_lt (T := T) hn w0 d
    obtain ⟨a1, a2⟩ := P.at_ _ hsl k0
    have hw := P.way _ hsl k0
    have hh := P.home (nth zs (stepS T w0 d))
    have es := step_dst hh hs
    generalize awN T zs (stepS T w0 d) = a at a1 a2 hw
    generalize nth zs (stepS T w0 d) = x at k0 k9 a2 hw hh he es
    generalize dst T.zs.length (homeN T x) s = e at he es
    have hae : a < e := by
      refine Nat.lt_of_not_le fun hle => ?_
      have := hw e hle
      rw [es] at this
      exact this h
    have h3 : stepS T w0 (d + (e - a)) = stepS T w0 (L - 1) := by
      rw [hw0, ← step_step, ← a2, step_step, show a + (e - a) = e by omega, es]
    by_cases c : d + (e - a) < T.zs.length
    · have := step_inj hwl c (by omega) h3; omega
    · have h4 : stepS T w0 (d + (e - a) - T.zs.length) = stepS T w0 (d + (e - a)) := by
        unfold stepS
        rw [show w0 + (d + (e - a)) = w0 + (d + (e - a) - T.zs.length) + T.zs.length by omega, Nat.add_mod_right]
      have := step_inj hwl (by omega) (by omega) (h4.trans h3); omega
  omega
/-- The same keys take the same slots. -/
theorem occ_same {T : Tab} {xs ys : List Int} (P : PlainZ T xs) (Q : PlainZ T ys) (hx : -1 ∈ xs) (hy : -1 ∈ ys) (hk : sortU xs = sortU ys) {s : Nat} (hs : s < T.zs.length) : nth xs s = -1 ↔ nth ys s = -1 := by
  have hq : ∀ L x, winQ T s L x = true → inB x 0 99 = true := fun L x h => by
    unfold winQ at h
    simp only [Bool.and_eq_true] at h
    exact h.1
  have hc : ∀ L, xs.countP (winQ T s L) = ys.countP (winQ T s L) := fun L => by
    have h1 := countP_keys (zs := xs) (hq L) (by rw [P.len]; exact P.good)
    have h2 := countP_keys (zs := ys) (hq L) (by rw [Q.len]; exact Q.good)
    rw [h1, h2, hk]
  obtain ⟨f, hf, ef⟩ := mem_nth hx
  obtain ⟨g, hg, eg⟩ := mem_nth hy
  rw [P.len] at hf
  rw [Q.len] at hg
  constructor
  · intro h
    by_cases c : nth ys s = -1
    · exact c
    · obtain ⟨L, l1, l2, l3⟩ := occ_yes Q hg eg hs c
      have := occ_no P hs h l1 l2
      have := hc L
      omega
  · intro h
    by_cases c : nth xs s = -1
    · exact c
    · obtain ⟨L, l1, l2, l3⟩ := occ_yes P hf ef hs c
      have := occ_no Q hs h l1 l2
      have := hc L
      omega

/-- One fair table of some keys. -/
theorem uniq_half {T : Tab} {xs ys : List Int} (fx : fairB (tab T xs) = true) (P : PlainZ T xs) (Q : PlainZ T ys) {f : Nat} (hf : f < T.zs.length) (fy0 : nth ys f = -1) (hk : ∀ z, 0 ≤ z → z ≤ 99 → (z ∈ xs ↔ z ∈ ys))
    {p : Nat} (hp : p < T.zs.length) (low : ∀ q, q < p → nth xs (stepS T f q) = nth ys (stepS T f q)) (hx : 0 ≤ nth xs (stepS T f p)) (hy : 0 ≤ nth ys (stepS T f p)) (hne : nth xs (stepS T f p) ≠ nth ys (stepS T f p)) :
    (awN T ys (stepS T f p) < awN T xs (stepS T f p)) ∨ (awN T xs (stepS T f p) = awN T ys (stepS T f p) ∧ nth xs (stepS T f p) < nth ys (stepS T f p)) := by
  have hn := P.one
  have hsl := stepS_lt (T := T) hn f p
  have hy9 := (Q.key _ hsl (by omega)).2
  obtain ⟨a1, a2⟩ := Q.at_ _ hsl hy
  have hw := Q.way _ hsl hy
  have hh := Q.home (nth ys (stepS T f p))
  -- the key of the other row lies behind
  have hin : nth ys (stepS T f p) ∈ xs := (hk _ hy hy9).2 (nth_mem (by rw [Q.len]; exact hsl))
  obtain ⟨j, hj, ej⟩ := mem_nth hin
  rw [P.len] at hj
  have ejs := step_dst hf hj
  have hq := dst_lt hf hj
  generalize dst T.zs.length f j = q at ejs hq
  have hqp : p < q := by
    rcases Nat.lt_trichotomy q p with c | c | c
    · exfalso
      have h1 := low q c
      rw [ejs, ej] at h1
      have h2 := Q.good.inj hj hsl (by rw [← ejs]; rw [← ejs] at h1; exact h1.symm) (by rw [← h1]; exact hy)
      rw [← ejs] at h2
      have := step_inj hf (by omega) hp h2
      omega
    · exfalso
      rw [← c, ejs] at hne
      rw [← c, ejs] at ej
      exact hne ej
    · exact c
  have b := P.at_ j hj (by rw [ej]; exact hy)
  have hwx := P.way j hj (by rw [ej]; exact hy)
  rw [ej] at b hwx
  obtain ⟨b1, b2⟩ := b
  generalize hd : awN T ys (stepS T f p) = d at a1 a2 hw
  have hdp : d < p := by
    refine Nat.lt_of_not_le fun hle => ?_
    have h1 := hw (d - p) (by omega)
    have h2 : stepS T (stepS T (homeN T (nth ys (stepS T f p))) (d - p)) p = stepS T f p := by
      rw [step_step, show d - p + p = d by omega, a2]
    have h3 := step_back (stepS_lt hn _ _) hf hp h2
    rw [h3] at h1
    exact h1 fy0
  have hT : awN T xs j = d + (q - p) := by
    refine step_inj hh b1 (by omega) ?_
    rw [b2, ← step_step, a2, step_step, show p + (q - p) = q by omega, ejs]
  obtain ⟨_, _, hto⟩ := fair_parts fx
  have e0 : (tab T xs).zs.length = T.zs.length := P.len
  have hsb := fairTo_iff.1 hto j (by rw [e0]; exact hj)
  have hnj : ¬ nth (tab T xs).zs j < 0 := by show ¬ nth xs j < 0; rw [ej]; omega
  have haw : awN (tab T xs) (tab T xs).zs j = awN T xs j := by
    show dst (tab T xs).zs.length (homeN (tab T xs) (nth xs j)) j = _
    rw [e0, tab_home P.len]; rfl
  simp only [slotB, hnj, decide_false, Bool.false_or] at hsb
  rw [haw, hT] at hsb
  have hah := wayB_iff.1 hsb d (by omega)
  have ezj : nth (tab T xs).zs j = nth ys (stepS T f p) := ej
  rw [ezj, tab_home P.len] at hah
  have est : stepS (tab T xs) (homeN T (nth ys (stepS T f p))) d = stepS T f p := by rw [show ∀ h m, stepS (tab T xs) h m = stepS T h m from fun h m => by simp [stepS, tab, P.len]]; exact a2
  rw [est] at hah
  unfold aheadB at hah
  rw [awN_of P.val P.len hsl hx] at hah
  simp only [Bool.or_eq_true, Bool.and_eq_true, decide_eq_true_eq, beq_iff_eq] at hah
  have ezp : nth (tab T xs).zs (stepS T f p) = nth xs (stepS T f p) := rfl
  rw [ezp] at hah
  omega
theorem fair_uniq {T : Tab} {xs ys : List Int} (fx : fairB (tab T xs) = true) (fy : fairB (tab T ys) = true) (lx : xs.length = T.zs.length) (ly : ys.length = T.zs.length) (hk : sortU xs = sortU ys) : xs = ys := by
  obtain ⟨px, mx, _⟩ := fair_parts fx
  obtain ⟨py, my, _⟩ := fair_parts fy
  have P := plainZ px lx
  have Q := plainZ py ly
  have hn := P.one
  have hmem : ∀ z, 0 ≤ z → z ≤ 99 → (z ∈ xs ↔ z ∈ ys) := fun z h0 h9 => by
    have h1 : z ∈ sortU xs ↔ z ∈ sortU ys := by rw [hk]
    rw [sortU_mem, sortU_mem] at h1
    constructor
    · intro h; exact (h1.1 ⟨⟨h0, h9⟩, h⟩).2
    · intro h; exact (h1.2 ⟨⟨h0, h9⟩, h⟩).2
  obtain ⟨f, hf, ef⟩ := mem_nth (show -1 ∈ xs from mx)
  rw [lx] at hf
  have ef2 := (occ_same P Q mx my hk hf).1 ef
  have all : ∀ p, p < T.zs.length → nth xs (stepS T f p) = nth ys (stepS T f p) := fun p => by
    induction p using Nat.strongRecOn with
    | _ p ih =>
      intro hp
      have low : ∀ q, q < p → nth xs (stepS T f q) = nth ys (stepS T f q) := fun q hq => ih q hq (by omega)
      have hsl := stepS_lt (T := T) hn f p
      have ho := occ_same P Q mx my hk hsl
      by_cases c : nth xs (stepS T f p) = -1
      · rw [c, ho.1 c]
      · have c2 : nth ys (stepS T f p) ≠ -1 := fun e => c (ho.2 e)
        have kx := (P.key _ hsl c).1
        have ky := (Q.key _ hsl c2).1
        by_cases e : nth xs (stepS T f p) = nth ys (stepS T f p)
        · exact e
        · have h1 := uniq_half fx P Q hf ef2 hmem hp low kx ky e
          have h2 := uniq_half fy Q P hf ef (fun z h0 h9 => (hmem z h0 h9).symm) hp (fun q hq => (low q hq).symm) ky kx (Ne.symm e)
          omega
  refine nth_ext (by rw [lx, ly]) fun i hi => ?_
  rw [lx] at hi
  have := all _ (dst_lt hf hi)
  rwa [step_dst hf hi] at this

end Go.Proofs.YtpncpeokdcolpaaGreatDoor

namespace Go.Proofs.YtpncpeokdcolpaaGreatDoor

theorem nodup_length {l m : List Int} (hn : l.Nodup) : (∀ x, x ∈ l → x ∈ m) → l.length ≤ m.length := by
  induction l generalizing m with
  | nil => intro _; exact Nat.zero_le _
  | cons x l ih =>
    intro hs
    obtain ⟨n1, n2⟩ := List.nodup_cons.1 hn
    have hx := hs x (List.mem_cons_self ..)
    have := ih (m := m.erase x) n2 fun y hy => (List.mem_erase_of_ne (fun (e : y = x) => n1 (by rw [e] at hy; exact hy))).2 (hs y (List.mem_cons_of_mem _ hy))
    rw [List.length_erase_of_mem hx] at this
    have h0 : 0 < m.length := List.length_pos_of_mem hx
    simp only [List.length_cons]
    omega
theorem sortU_nodup (zs : List Int) : (sortU zs).Nodup := (sortU_pairwise zs).imp fun h e => by omega

/-- Which keys lie there when one has been put. -/
theorem fput_keys {T : Tab} {key : Int} (hfa : fairB T = true) (F : FputSays T key) {z : Int} (h0 : 0 ≤ z) : z ∈ fputZ T key ↔ z = key ∨ z ∈ T.zs := by
  obtain ⟨⟨l1, _⟩, _⟩ := valid_facts F.val
  have Sh := shifted hfa F
  have hh := homeN_lt F.val key
  have hlen := fputZ_len T key
  have hg := give_le T key
  have hE := F.elt
  have hin : ∀ m, nth (fputZ T key) (stepS T (homeN T key) m) ∈ fputZ T key := fun m => nth_mem (by rw [hlen]; exact stepS_lt l1 _ _)
  constructor
  · intro h
    obtain ⟨i, hi, e⟩ := mem_nth h
    rw [hlen] at hi
    rw [← e]
    exact fput_from l1 i hi
  · rintro (rfl | h)
    · have := hin (giveN T z)
      rw [Sh.at_] at this
      exact this
    · obtain ⟨i, hi, e⟩ := mem_nth h
      obtain ⟨s1, s2⟩ := step_away hh hi
      generalize (i + T.zs.length - homeN T key) % T.zs.length = m at s1 s2
      rw [← s1] at e
      by_cases c1 : m < giveN T key
      · rw [← e, ← Sh.low m c1]; exact hin _
      · by_cases c2 : m < endF T key
        · have := Sh.mid (m + 1) (by omega) (by omega)
          rw [Nat.add_sub_cancel] at this
          rw [← e, ← this]; exact hin _
        · by_cases c3 : m = endF T key
          · rw [c3, F.eat] at e; omega
          · rw [← e, ← Sh.high m (by omega) s2]; exact hin _

/-- A fair row with some keys. -/
structure FairZ (T : Tab) (zs : List Int) (S : Int → Prop) : Prop where
  fair : fairB (tab T zs) = true
  len : zs.length = T.zs.length
  mem : ∀ z, 0 ≤ z → z ≤ 99 → (z ∈ zs ↔ S z)
theorem FairZ.plain {T : Tab} {zs : List Int} {S : Int → Prop} (h : FairZ T zs S) : PlainZ T zs := plainZ (fair_parts h.fair).1 h.len
theorem FairZ.val {T : Tab} {zs : List Int} {S : Int → Prop} (h : FairZ T zs S) : validB (tab T zs) = true := h.plain.val
theorem FairZ.imp {T : Tab} {zs : List Int} {S S' : Int → Prop} (h : FairZ T zs S) (hs : ∀ z, 0 ≤ z → z ≤ 99 → (S z ↔ S' z)) : FairZ T zs S' := ⟨h.fair, h.len, fun z h0 h9 => (h.mem z h0 h9).trans (hs z h0 h9)⟩
/-- Two fair rows with the same keys are the same. -/
theorem FairZ.uniq {T : Tab} {xs ys : List Int} {S S' : Int → Prop} (h : FairZ T xs S) (k : FairZ T ys S') (hs : ∀ z, 0 ≤ z → z ≤ 99 → (S z ↔ S' z)) : xs = ys :=
  fair_uniq h.fair k.fair h.len k.len (sortU_same fun z h0 h9 => ((h.mem z h0 h9).trans (hs z h0 h9)).trans (k.mem z h0 h9).symm)
theorem FairZ.found {T : Tab} {zs : List Int} {S : Int → Prop} (h : FairZ T zs S) {x : Int} (h0 : 0 ≤ x) (h9 : x ≤ 99) : 0 ≤ findI (tab T zs) x ↔ S x := by
  obtain ⟨hp, _, _⟩ := fair_parts h.fair
  obtain ⟨hs, hv, _⟩ := plain_parts hp
  rw [← h.mem x h0 h9]
  constructor
  · intro hf
    obtain ⟨e1, e2⟩ := find_yes hf
    obtain ⟨⟨l1, _⟩, _⟩ := valid_facts hv
    have hlt := lastOf_lt (T := tab T zs) l1 x
    rw [← e2]
    exact nth_mem hlt
  · intro hm
    obtain ⟨i, hi, e⟩ := mem_nth hm
    have := sound_find hs (i := i) hi (by show 0 ≤ nth zs i; omega)
    have ez : nth (tab T zs).zs i = x := e
    rw [ez] at this
    omega
/-- How many slots are free. -/
theorem FairZ.count {T : Tab} {zs : List Int} {S : Int → Prop} (h : FairZ T zs S) : (sortU zs).length + cnt freeP zs zs.length = T.zs.length ∧ 1 ≤ cnt freeP zs zs.length := by
  obtain ⟨hp, hm, _⟩ := fair_parts h.fair
  obtain ⟨hs, hv, ht⟩ := plain_parts hp
  obtain ⟨_, _, _, hg'⟩ := valid_facts hv
  have hg : Good zs zs.length := hg'
  have ha := cnt_all zs
  have hz : cnt tombP zs zs.length = 0 := cnt_none fun i hi => by
    have : nth zs i ≠ -2 := ht i hi
    simp [tombP, this]
  have hk : (sortU zs).length = cnt keyP zs zs.length := by
    have hp2 : (zs.filter fun x => inB x 0 99).Perm (sortU zs) := by
      rw [← sort_keys hg]
      exact (List.mergeSort_perm _ _).symm
    rw [← hp2.length_eq]
    unfold cnt
    rw [List.take_length, List.countP_eq_length_filter]
    congr 1
    refine List.filter_congr fun x hx => ?_
    obtain ⟨i, hi, e⟩ := mem_nth hx
    have h1 := valid_slot hv hi
    have h2 := ht i hi
    have e1 : nth (tab T zs).zs i = x := e
    rw [e1] at h1 h2
    by_cases c : x = -1
    · subst c; decide
    · have : inB x 0 99 = true := inB_true (by omega)
      rw [this]
      simp [keyP, c, h2]
  refine ⟨by rw [hk]; have := h.len; omega, ?_⟩
  obtain ⟨i, hi, e⟩ := mem_nth (show -1 ∈ zs from hm)
  unfold cnt
  rw [List.take_length]
  refine List.countP_pos_iff.2 ⟨nth zs i, nth_mem hi, by rw [e]; decide⟩

theorem fairZ_start {T : Tab} (hf : fairB T = true) : FairZ T T.zs (fun z => z ∈ T.zs) := ⟨hf, rfl, fun _ _ _ => Iff.rfl⟩
theorem FairZ.put {T : Tab} {zs : List Int} {S : Int → Prop} (h : FairZ T zs S) {x : Int} (hok : fputOk (tab T zs) x = true) : FairZ T (fputZ (tab T zs) x) (fun z => S z ∨ z = x) := by
  have F := fput_says hok
  refine ⟨fput_fair hok, by rw [fputZ_len]; exact h.len, fun z h0 h9 => ?_⟩
  rw [fput_keys h.fair F h0]
  have := h.mem z h0 h9
  have e : (tab T zs).zs = zs := rfl
  rw [e, this]
  exact or_comm
theorem FairZ.step {T : Tab} {zs zs' : List Int} {S : Int → Prop} (h : FairZ T zs S) {x : Int} (h0 : 0 ≤ x) (h9 : x ≤ 99) (hs : stepF T zs x = some zs') : FairZ T zs' (fun z => S z ∨ z = x) := by
  unfold stepF at hs
  split at hs
  · rename_i hf
    cases hs
    have hx := (h.found h0 h9).1 hf
    exact h.imp fun z _ _ => ⟨.inl, fun hz => hz.elim id fun e => e ▸ hx⟩
  · split at hs
    · rename_i hok
      cases hs
      exact h.put hok
    · cases hs
theorem fall_fair {T : Tab} {ks : List Int} (hf : fairB T = true) (hk : keysB ks = true) : ∀ j, j ≤ ks.length → ∀ zs, fallTo T ks j = some zs → FairZ T zs (fun z => z ∈ T.zs ∨ z ∈ ks.take j) := by
  intro j
  induction j with
  | zero =>
    intro _ zs h
    cases h
    exact (fairZ_start hf).imp fun z _ _ => by simp
  | succ j ih =>
    intro hj zs h
    simp only [fallTo] at h
    cases h1 : fallTo T ks j with
    | none => rw [h1] at h; cases h
    | some z1 =>
      rw [h1] at h
      have i1 := ih (by omega) z1 h1
      obtain ⟨k0, k9⟩ := keysB_nth hk (j := j) (by omega)
      refine (i1.step k0 k9 h).imp fun z _ _ => ?_
      have e : nth ks j = ks[j] := by simp [nth, List.getElem?_eq_getElem (show j < ks.length by omega)]
      rw [List.take_succ_eq_append_getElem (show j < ks.length by omega), List.mem_append, List.mem_singleton, ← e, or_assoc]
/-- There is room for keys that all lie in a fair row. -/
theorem fall_room {T : Tab} {ks : List Int} (hf : fairB T = true) (hk : keysB ks = true) {xs : List Int} {S : Int → Prop} (X : FairZ T xs S) (h1 : ∀ z, 0 ≤ z → z ≤ 99 → z ∈ T.zs → S z) (h2 : ∀ z, z ∈ ks → S z) : fallOk T ks = true := by
  have all : ∀ j, j ≤ ks.length → (fallTo T ks j).isSome = true := fun j => by
    induction j with
    | zero => intro _; rfl
    | succ j ih =>
      intro hj
      have hi := ih (by omega)
      obtain ⟨zs, hz⟩ := Option.isSome_iff_exists.1 hi
      have Z := fall_fair hf hk j (by omega) zs hz
      obtain ⟨k0, k9⟩ := keysB_nth hk (j := j) (by omega)
      simp only [fallTo, hz, Option.bind_some, stepF]
      split
      · rfl
      · rename_i hnf
        have hin : ¬ (nth ks j ∈ T.zs ∨ nth ks j ∈ ks.take j) := fun h => hnf ((Z.found k0 k9).2 h)
        have hkj : nth ks j ∈ ks := nth_mem (by omega)
        have hok : fputOk (tab T zs) (nth ks j) = true := by
          have c1 := Z.count
          have c2 := X.count
          have hlen : (nth ks j :: sortU zs).length ≤ (sortU xs).length := nodup_length (List.nodup_cons.2 ⟨fun h => hin ((Z.mem _ k0 k9).1 (sortU_mem.1 h).2), sortU_nodup zs⟩) fun z hz' => by
            rcases List.mem_cons.1 hz' with rfl | hz'
            · exact sortU_mem.2 ⟨⟨k0, k9⟩, (X.mem _ k0 k9).2 (h2 _ hkj)⟩
            · obtain ⟨⟨z0, z9⟩, hm⟩ := sortU_mem.1 hz'
              refine sortU_mem.2 ⟨⟨z0, z9⟩, (X.mem _ z0 z9).2 ?_⟩
              rcases (Z.mem _ z0 z9).1 hm with c | c
              · exact h1 _ z0 z9 c
              · exact h2 _ (List.mem_of_mem_take c)
          simp only [List.length_cons] at hlen
          have hcf : countF (tab T zs) = cnt freeP zs zs.length := by unfold countF; rw [if_pos Z.val]; rfl
          simp only [fputOk, Bool.and_eq_true, decide_eq_true_eq]
          refine ⟨⟨⟨Z.fair, by rw [hcf]; omega⟩, inB_true ⟨k0, k9⟩⟩, by omega⟩
        rw [if_pos hok]
        rfl
  simp only [fallOk, Bool.and_eq_true]
  exact ⟨⟨hf, hk⟩, all _ (Nat.le_refl _)⟩
theorem fall_says {T : Tab} {ks : List Int} (h : fallOk T ks = true) : fairB T = true ∧ keysB ks = true ∧ ∃ zs, fallT T ks = tab T zs ∧ FairZ T zs (fun z => z ∈ T.zs ∨ z ∈ ks) := by
  have h' := h
  simp only [fallOk, Bool.and_eq_true] at h
  obtain ⟨⟨hf, hk⟩, hs⟩ := h
  obtain ⟨zs, hz⟩ := Option.isSome_iff_exists.1 hs
  refine ⟨hf, hk, zs, by unfold fallT; rw [if_pos h', hz]; rfl, ?_⟩
  have := fall_fair hf hk _ (Nat.le_refl _) zs hz
  rwa [List.take_length] at this

end Go.Proofs.YtpncpeokdcolpaaGreatDoor

namespace Go.Proofs.YtpncpeokdcolpaaGreatDoor

theorem perm_sum {g : Int → Nat} {l m : List Int} (h : l.Perm m) : (l.map g).sum = (m.map g).sum := by
  induction h with
  | nil => rfl
  | cons x _ ih => simp [ih]
  | swap x y l => simp; omega
  | trans _ _ a b => exact a.trans b
theorem sumU_map (g : Int → Nat) (zs : List Int) : sumU (fun i => g (nth zs i)) zs.length = (zs.map g).sum := by
  have h : ∀ k, k ≤ zs.length → sumU (fun i => g (nth zs i)) k = ((zs.take k).map g).sum := fun k => by
    induction k with
    | zero => intro _; simp [sumU]
    | succ k ih =>
      intro hk
      rw [sumU_succ, ih (by omega), List.take_succ_eq_append_getElem (by omega), List.map_append, List.sum_append]
      simp [nth, List.getElem?_eq_getElem (show k < zs.length by omega)]
  rw [h _ (Nat.le_refl _), List.take_length]
theorem map_keys {g : Int → Nat} (hg : ∀ x, inB x 0 99 = false → g x = 0) {zs : List Int} (h : Good zs zs.length) : (zs.map g).sum = ((sortU zs).map g).sum := by
  have hp : (zs.filter fun x => inB x 0 99).Perm (sortU zs) := by
    rw [← sort_keys h]
    exact (List.mergeSort_perm _ _).symm
  rw [← perm_sum hp]
  clear hp h
  induction zs with
  | nil => rfl
  | cons x l ih =>
    simp only [List.map_cons, List.sum_cons, List.filter_cons]
    cases hx : inB x 0 99
    · rw [hg x hx, ih]; simp
    · rw [ih]; simp

/-- From a free slot on a key lies behind its home, as far as it is away. -/
theorem lin_home {T : Tab} {zs : List Int} (P : PlainZ T zs) {f : Nat} (hf : f < T.zs.length) (hff : nth zs f = -1) {i : Nat} (hi : i < T.zs.length) (h0 : 0 ≤ nth zs i) :
    dst T.zs.length f i = dst T.zs.length f (homeN T (nth zs i)) + awN T zs i := by
  obtain ⟨a1, a2⟩ := P.at_ i hi h0
  have hw := P.way i hi h0
  have hh := P.home (nth zs i)
  have e1 := step_dst hf hh
  have hc := dst_lt hf hh
  generalize dst T.zs.length f (homeN T (nth zs i)) = c at e1 hc ⊢
  generalize awN T zs i = a at a1 a2 hw ⊢
  have hlt : c + a < T.zs.length := by
    refine Nat.lt_of_not_le fun hle => ?_
    have h1 := hw (T.zs.length - c) (by omega)
    have h2 : stepS T (homeN T (nth zs i)) (T.zs.length - c) = f := by
      conv => lhs; rw [← e1]
      rw [step_step, show c + (T.zs.length - c) = T.zs.length by omega]
      unfold stepS; rw [Nat.add_mod_right, Nat.mod_eq_of_lt hf]
    rw [h2] at h1
    exact h1 hff
  have h3 : stepS T f (c + a) = i := by rw [← step_step, e1, a2]
  rw [← h3]
  exact dst_step hf hlt
/-- How far keys lie from home altogether. -/
def awS (T : Tab) (zs : List Int) (i : Nat) : Nat := if nth zs i = -1 then 0 else awN T zs i
def linH (T : Tab) (f : Nat) (x : Int) : Nat := if inB x 0 99 then dst T.zs.length f (homeN T x) else 0
theorem tot_lin {T : Tab} {zs : List Int} (P : PlainZ T zs) {f : Nat} (hf : f < T.zs.length) (hff : nth zs f = -1) :
    sumU (awS T zs) T.zs.length + ((sortU zs).map (linH T f)).sum = sumU (fun i => if nth zs i = -1 then 0 else dst T.zs.length f i) T.zs.length := by
  rw [← map_keys (g := linH T f) (fun x hx => by unfold linH; rw [hx]; rfl) (by rw [P.len]; exact P.good), ← sumU_map, P.len, ← sumU_plus]
  refine sumU_congr fun i hi => ?_
  unfold awS
  by_cases c : nth zs i = -1
  · rw [if_pos c, if_pos c, c]; rfl
  · obtain ⟨k0, k9⟩ := P.key i hi c
    rw [if_neg c, if_neg c, lin_home P hf hff hi k0]
    unfold linH
    rw [inB_true ⟨k0, k9⟩]
    simp; omega
theorem tot_same {T : Tab} {xs ys : List Int} (P : PlainZ T xs) (Q : PlainZ T ys) (hx : -1 ∈ xs) (hy : -1 ∈ ys) (hk : sortU xs = sortU ys) : sumU (awS T xs) T.zs.length = sumU (awS T ys) T.zs.length := by
  obtain ⟨f, hf, ef⟩ := mem_nth hx
  rw [P.len] at hf
  have eg := (occ_same P Q hx hy hk hf).1 ef
  have h1 := tot_lin P hf ef
  have h2 := tot_lin Q hf eg
  have h3 : sumU (fun i => if nth xs i = -1 then 0 else dst T.zs.length f i) T.zs.length = sumU (fun i => if nth ys i = -1 then 0 else dst T.zs.length f i) T.zs.length := sumU_congr fun i hi => by
    have := occ_same P Q hx hy hk hi
    by_cases c : nth xs i = -1
    · rw [if_pos c, if_pos (this.1 c)]
    · rw [if_neg c, if_neg fun e => c (this.2 e)]
  rw [hk] at h1
  omega
theorem tot_away {T : Tab} {zs : List Int} (P : PlainZ T zs) : totalAway (tab T zs) = (sumU (awS T zs) T.zs.length : Nat) := by
  have h : ∀ k, k ≤ T.zs.length → totTo (tab T zs) k = (sumU (awS T zs) k : Nat) := fun k => by
    induction k with
    | zero => intro _; simp [totTo, sumU]
    | succ k ih =>
      intro hk
      simp only [totTo]
      rw [ih (by omega), sumU_succ]
      unfold awS
      by_cases c : nth zs k = -1
      · rw [if_pos c, free_away (T := tab T zs) (by show nth zs k < 0; omega)]; omega
      · have := (P.key k (by omega) c).1
        rw [if_neg c, awN_of P.val P.len (by omega) this]; omega
  unfold totalAway
  rw [if_pos P.val]
  have e : (tab T zs).zs.length = T.zs.length := P.len
  rw [e]
  exact h _ (Nat.le_refl _)

theorem most_is (T : Tab) : ∀ j, mostTo T j = 0 ∨ ∃ i, i < j ∧ mostTo T j = awayOf T i := by
  intro j
  induction j with
  | zero => exact .inl rfl
  | succ j ih =>
    simp only [mostTo]
    by_cases c : mostTo T j ≤ awayOf T j
    · exact .inr ⟨j, by omega, by omega⟩
    · rcases ih with h | ⟨i, hi, h⟩
      · left; omega
      · exact .inr ⟨i, by omega, by omega⟩
/-- Some key of any table of the same keys lies as far from home as one of the fair table. -/
theorem fair_most {T : Tab} {xs ys : List Int} (fx : fairB (tab T xs) = true) (P : PlainZ T xs) (Q : PlainZ T ys) (hy : -1 ∈ ys) (hk : sortU xs = sortU ys) {i : Nat} (hi : i < T.zs.length) (h0 : 0 ≤ nth xs i) :
    ∃ j, j < T.zs.length ∧ 0 ≤ nth ys j ∧ awN T xs i ≤ awN T ys j := by
  obtain ⟨_, hx, hto⟩ := fair_parts fx
  have hn := P.one
  obtain ⟨f, hf, ef⟩ := mem_nth (show -1 ∈ xs from hx)
  rw [P.len] at hf
  have eg := (occ_same P Q hx hy hk hf).1 ef
  have f0 : stepS T f 0 = f := Nat.mod_eq_of_lt hf
  have ei := step_dst hf hi
  have hPl := dst_lt hf hi
  have hlin := lin_home P hf ef hi h0
  obtain ⟨u, u1, u2, u3⟩ := free_ahead (T := T) (zs := xs) (f := f) (by rw [f0]; exact ef) (dst T.zs.length f i) (by rw [ei]; omega)
  have hsb := fairTo_iff.1 hto i (by show i < xs.length; rw [P.len]; exact hi)
  have hnj : ¬ nth (tab T xs).zs i < 0 := by show ¬ nth xs i < 0; omega
  have haw : awN (tab T xs) (tab T xs).zs i = awN T xs i := by
    show dst (tab T xs).zs.length (homeN (tab T xs) (nth xs i)) i = _
    rw [show (tab T xs).zs.length = T.zs.length from P.len, tab_home P.len]; rfl
  simp only [slotB, hnj, decide_false, Bool.false_or] at hsb
  rw [haw] at hsb
  have hstep : ∀ h m, stepS (tab T xs) h m = stepS T h m := fun h m => by simp [stepS, tab, P.len]
  have hah : ∀ d, d < awN T xs i → (d : Int) ≤ awayOf (tab T xs) (stepS T (homeN T (nth xs i)) d : Nat) := fun d hd => by
    have := wayB_iff.1 hsb d hd
    have ez : nth (tab T xs).zs i = nth xs i := rfl
    rw [ez, tab_home P.len, hstep] at this
    unfold aheadB at this
    simp only [Bool.or_eq_true, Bool.and_eq_true, decide_eq_true_eq, beq_iff_eq] at this
    omega
  generalize hPp : dst T.zs.length f i = Pp at hPl hlin ei u1 u3
  generalize hHh : dst T.zs.length f (homeN T (nth xs i)) = H at hlin
  generalize haa : awN T xs i = a at hlin hah ⊢
  have hHs : stepS T f H = homeN T (nth xs i) := by rw [← hHh]; exact step_dst hf (P.home _)
  let q : Int → Bool := fun x => inB x 0 99 && (decide (u + 1 ≤ dst T.zs.length f (homeN T x)) && decide (dst T.zs.length f (homeN T x) ≤ H))
  have hq : ∀ x, q x = true → inB x 0 99 = true := fun x h => by
    simp only [q, Bool.and_eq_true] at h
    exact h.1
  have hc : xs.countP q = ys.countP q := by
    have h1 := countP_keys (zs := xs) hq (by rw [P.len]; exact P.good)
    have h2 := countP_keys (zs := ys) hq (by rw [Q.len]; exact Q.good)
    rw [h1, h2, hk]
  -- the run up to the key holds such keys alone
  have hX : Pp - u ≤ xs.countP q := by
    rw [← sumU_countP, P.len, ← sum_turn T (fun i => if q (nth xs i) then 1 else 0) (h := stepS T f (u + 1)) (stepS_lt hn _ _)]
    refine sumU_ge _ (by omega) fun d hd => ?_
    rw [step_step]
    have hsl := stepS_lt (T := T) hn f (u + 1 + d)
    have hne := u3 (u + 1 + d) (by omega) (by omega)
    obtain ⟨k0, k9⟩ := P.key _ hsl hne
    have hl := lin_home P hf ef hsl k0
    rw [dst_step hf (by omega)] at hl
    have hw := P.way _ hsl k0
    obtain ⟨b1, b2⟩ := P.at_ _ hsl k0
    -- its home lies behind the free slot
    have h1 : u + 1 ≤ dst T.zs.length f (homeN T (nth xs (stepS T f (u + 1 + d)))) := by
      refine Nat.le_of_not_lt fun hlt => ?_
      have h2 := hw (u - dst T.zs.length f (homeN T (nth xs (stepS T f (u + 1 + d))))) (by omega)
      have h3 : stepS T (homeN T (nth xs (stepS T f (u + 1 + d)))) (u - dst T.zs.length f (homeN T (nth xs (stepS T f (u + 1 + d))))) = stepS T f u := by
        conv => lhs; rw [show homeN T (nth xs (stepS T f (u + 1 + d))) = stepS T f (dst T.zs.length f (homeN T (nth xs (stepS T f (u + 1 + d))))) from (step_dst hf (P.home _)).symm]
        rw [step_step, dst_step hf (dst_lt hf (P.home _))]
        congr 1; omega
      rw [h3] at h2
      exact h2 u2
    have h2 : dst T.zs.length f (homeN T (nth xs (stepS T f (u + 1 + d)))) ≤ H := by
      by_cases c : u + 1 + d < H
      · omega
      · by_cases c2 : u + 1 + d = Pp
        · rw [c2, ei, hHh]; exact Nat.le_refl _
        · have h3 := hah (u + 1 + d - H) (by omega)
          rw [← hHs, step_step, show H + (u + 1 + d - H) = u + 1 + d by omega, awN_of P.val P.len hsl k0] at h3
          omega
    rw [if_pos]
    simp only [q, Bool.and_eq_true, decide_eq_true_eq]
    exact ⟨inB_true ⟨k0, k9⟩, h1, h2⟩
  -- so one of them lies as far on in the other table
  by_cases hex : ∃ j, j < T.zs.length ∧ q (nth ys j) = true ∧ Pp ≤ dst T.zs.length f j
  · obtain ⟨j, hj, hqj, hge⟩ := hex
    have hk0 := (inB_iff.1 (hq _ hqj)).1
    refine ⟨j, hj, hk0, ?_⟩
    have hl := lin_home Q hf eg hj hk0
    simp only [q, Bool.and_eq_true, decide_eq_true_eq] at hqj
    omega
  · exfalso
    have hY : ys.countP q ≤ Pp - u - 1 := by
      rw [← sumU_countP, Q.len, ← sum_turn T (fun i => if q (nth ys i) then 1 else 0) (h := stepS T f (u + 1)) (stepS_lt hn _ _)]
      refine sumU_few _ (fun d _ => by split <;> omega) fun d hd hle => ?_
      rw [step_step, if_neg]
      intro hqj
      have hsl := stepS_lt (T := T) hn f (u + 1 + d)
      have hk0 := (inB_iff.1 (hq _ hqj)).1
      have hl := lin_home Q hf eg hsl hk0
      have hlt : dst T.zs.length f (stepS T f (u + 1 + d)) < Pp := Nat.lt_of_not_le fun h => hex ⟨_, hsl, hqj, h⟩
      simp only [q, Bool.and_eq_true, decide_eq_true_eq] at hqj
      by_cases c : u + 1 + d < T.zs.length
      · rw [dst_step hf c] at hlt; omega
      · have h4 : stepS T f (u + 1 + d - T.zs.length) = stepS T f (u + 1 + d) := by
          unfold stepS
          rw [show f + (u + 1 + d) = f + (u + 1 + d - T.zs.length) + T.zs.length by omega, Nat.add_mod_right]
        rw [← h4, dst_step hf (by omega)] at hlt hl
        have h5 := hqj.2.1
        rw [← h4] at h5
        rw [h4] at hl h5
        omega
    omega
theorem most_le {T : Tab} {xs ys : List Int} (fx : fairB (tab T xs) = true) (P : PlainZ T xs) (Q : PlainZ T ys) (hy : -1 ∈ ys) (hk : sortU xs = sortU ys) : mostAway (tab T xs) ≤ mostAway (tab T ys) := by
  have ex : (tab T xs).zs.length = T.zs.length := P.len
  have ey : (tab T ys).zs.length = T.zs.length := Q.len
  unfold mostAway
  rw [if_pos P.val, if_pos Q.val, ex, ey]
  obtain ⟨⟨_, l2⟩, _⟩ := valid_facts Q.val
  have h0 := (mostTo_bounds (tab T ys) l2 T.zs.length).1
  rcases most_is (tab T xs) T.zs.length with h | ⟨i, hi, h⟩
  · omega
  · by_cases c : nth xs i = -1
    · rw [free_away (T := tab T xs) (by show nth xs i < 0; omega)] at h; omega
    · have k0 := (P.key i hi c).1
      rw [awN_of P.val P.len hi k0] at h
      obtain ⟨j, hj, hj0, hle⟩ := fair_most fx P Q hy hk hi k0
      have := most_ge (T := tab T ys) (i := j) hj
      rw [awN_of Q.val Q.len hj hj0] at this
      omega

end Go.Proofs.YtpncpeokdcolpaaGreatDoor

namespace Go.Proofs.YtpncpeokdcolpaaGreatDoor

/-- What is visited for a key that is found. -/
theorem vis_at {T : Tab} {zs : List Int} (hs : soundB (tab T zs) = true) (hl : zs.length = T.zs.length) {i : Nat} (hi : i < T.zs.length) (h0 : 0 ≤ nth zs i) :
    visN (tab T zs) (nth zs i) (homeN (tab T zs) (nth zs i)) = awN T zs i + 1 := by
  have hv : validB (tab T zs) = true := by
    simp only [soundB, Bool.and_eq_true] at hs
    exact hs.1
  obtain ⟨⟨l1, _⟩, _⟩ := valid_facts hv
  have hf := sound_find hs (i := i) (by show i < zs.length; omega) h0
  obtain ⟨e1, e2⟩ := find_yes (T := tab T zs) (key := nth zs i) (by have : findI (tab T zs) (nth (tab T zs).zs i) = i := hf; have e : nth (tab T zs).zs i = nth zs i := rfl; rw [e] at this; omega)
  have hf' : findI (tab T zs) (nth zs i) = i := hf
  have ha := last_away (T := tab T zs) hv h0 e2
  have hb := visN_bounds l1 (nth zs i) (homeN (tab T zs) (nth zs i))
  rw [← e1, hf', awN_of hv hl hi h0] at ha
  omega

/-- What lies in a row was there, elsewhere than in slot k, and no nearer to its home; and what was free is. -/
structure Nearer (T : Tab) (k : Nat) (zs : List Int) : Prop where
  free : ∀ i, i < T.zs.length → nth T.zs i = -1 → nth zs i = -1
  near : ∀ i, i < T.zs.length → 0 ≤ nth zs i → ∃ j, j < T.zs.length ∧ j ≠ k ∧ nth T.zs j = nth zs i ∧ awN T zs i ≤ awN T T.zs j
theorem Nearer.move {T : Tab} {k : Nat} {zs : List Int} {hole d : Nat} (w : Nearer T k zs) (h : Hole T zs hole d) (ho : nth T.zs hole ≠ -1) (hx : nth zs (fwd T.zs.length hole d) ≠ -1) (ha : ¬ awN T zs (fwd T.zs.length hole d) < d) :
    Nearer T k (moved T zs hole d) := by
  obtain ⟨f1, f2, f3, f4⟩ := h.full hx
  refine ⟨fun i hi hf => ?_, fun i hi h0 => ?_⟩
  · rw [h.nth_moved]
    split
    · rfl
    · split
      · rename_i e; subst e; exact absurd hf ho
      · exact w.free i hi hf
  · rw [h.nth_moved] at h0 ⊢
    unfold awN
    rw [h.nth_moved]
    split at h0
    · omega
    · rename_i c1
      rw [if_neg c1]
      by_cases c2 : i = hole
      · rw [if_pos c2]
        obtain ⟨j, j1, j2, j3, j4⟩ := w.near _ h.klt f3
        refine ⟨j, j1, j2, j3, ?_⟩
        have hc := dst_cut (h.home (nth zs (fwd T.zs.length hole d))) h.lt f1 ha
        unfold awN at j4
        subst c2
        omega
      · rw [if_neg c2] at h0 ⊢
        exact w.near i hi h0
theorem shift_nearer (T : Tab) (k : Nat) : ∀ (f : Nat) (zs : List Int) (hole d : Nat), Hole T zs hole d → nth T.zs hole ≠ -1 → Nearer T k zs → Nearer T k (shiftF T f zs hole d).2 := by
  intro f
  induction f with
  | zero => intro zs hole d _ _ h; exact h
  | succ f ih =>
    intro zs hole d hH ho hw
    simp only [shiftF]
    split
    · exact hw
    · rename_i hx
      split
      · exact ih _ _ _ (hH.pass hx) ho hw
      · rename_i ha
        exact ih (moved T zs hole d) _ _ (hH.move hx) (fun e => hx (hw.free _ hH.klt e)) (hw.move hH ho hx ha)
theorem nearer_start {T : Tab} {k : Nat} (hk : k < T.zs.length) : Nearer T k (T.zs.set k (-1)) := by
  refine ⟨fun i hi hf => ?_, fun i hi h0 => ?_⟩
  · rw [nth_set hk]
    split
    · rfl
    · exact hf
  · rw [nth_set hk] at h0 ⊢
    unfold awN
    rw [nth_set hk]
    split at h0
    · omega
    · rename_i c
      rw [if_neg c]
      exact ⟨i, hi, c, rfl, Nat.le_refl _⟩

/-- Shifted and tombed. -/
theorem shift_clean {T : Tab} {key : Int} (h : shiftOk T key = true) : dropOk T key = true ∧ (validB (shiftT T key) = true ∧ validB (dropT T key) = true ∧ (shiftT T key).zs.length = T.zs.length ∧ (dropT T key).zs.length = T.zs.length) ∧
    (∀ i, missN (shiftT T key) i ≤ missN (dropT T key) i) ∧ ∀ y, y ∈ (shiftT T key).zs → inB y 0 99 = true → visOf (shiftT T key) y ≤ visOf (dropT T key) y := by
  obtain ⟨k, S⟩ := shift_says h
  have hd : dropOk T key = true := by
    obtain ⟨hs, _, _⟩ := plain_parts S.plain
    simp only [dropOk, Bool.and_eq_true, decide_eq_true_eq]
    exact ⟨by rw [S.find]; omega, hs⟩
  refine ⟨hd, ?_⟩
  have eX : shiftT T key = tab T (shiftZ T T.zs k).2 := by
    unfold shiftT
    rw [if_pos h, S.find, Int.toNat_natCast]
  have eY : dropT T key = tab T (dropL [key] T.zs) := dropT_yes hd
  rw [eX, eY]
  have hN : Nearer T k (shiftZ T T.zs k).2 := shift_nearer T k _ _ _ _ S.hole (by rw [S.here]; have := S.key0; omega) (nearer_start S.lt)
  have hpl := left_plain S.left
  obtain ⟨hsX, hvX, _⟩ := plain_parts hpl
  obtain ⟨hsT, _, _⟩ := plain_parts S.plain
  have hsY : soundB (tab T (dropL [key] T.zs)) = true := drop_sound hsT [key]
  have hvY : validB (tab T (dropL [key] T.zs)) = true := by
    have := hsY
    simp only [soundB, Bool.and_eq_true] at this
    exact this.1
  have hlX : (shiftZ T T.zs k).2.length = T.zs.length := S.left.len
  have hlY := dropL_len [key] T.zs
  refine ⟨⟨hvX, hvY, hlX, hlY⟩, fun i => ?_, fun y hy hk => ?_⟩
  · have hm := goN_mono (p := freeAt (tab T (dropL [key] T.zs)) i) (q := freeAt (tab T (shiftZ T T.zs k).2) i) (n := T.zs.length) fun d _ hf => by
      have hst := stepS_lt (T := T) (by have := S.lt; omega) i d
      simp only [freeAt, beq_iff_eq] at hf ⊢
      have e1 : stepS (tab T (dropL [key] T.zs)) i d = stepS T i d := by simp [stepS, tab, hlY]
      have e2 : stepS (tab T (shiftZ T T.zs k).2) i d = stepS T i d := by simp [stepS, tab, hlX]
      rw [e1] at hf
      rw [e2]
      refine hN.free _ hst ?_
      have hf2 : nth (dropL [key] T.zs) (stepS T i d) = -1 := hf
      rw [dropL_nth hst] at hf2
      split at hf2
      · omega
      · exact hf2
    unfold missN cntN
    show min (goN _ (shiftZ T T.zs k).2.length + 1) (shiftZ T T.zs k).2.length ≤ min (goN _ (dropL [key] T.zs).length + 1) (dropL [key] T.zs).length
    rw [hlX, hlY]
    omega
  · obtain ⟨i, hi, e⟩ := mem_nth hy
    have hi' : i < T.zs.length := by have : i < (shiftZ T T.zs k).2.length := hi; omega
    have e' : nth (shiftZ T T.zs k).2 i = y := e
    have h0 : 0 ≤ y := (inB_iff.1 hk).1
    obtain ⟨j, j1, j2, j3, j4⟩ := hN.near i hi' (by omega)
    have hne : y ≠ key := fun c => j2 (by
      obtain ⟨_, _, _, hg⟩ := valid_facts S.val
      have hj0 : 0 ≤ nth T.zs j := by rw [j3, e']; exact h0
      have h1 := sound_find hsT j1 hj0
      have h2 := sound_find hsT S.lt (by rw [S.here]; exact S.key0.1)
      rw [S.here] at h2
      rw [j3, e', c, h2] at h1
      omega)
    have hyY : nth (dropL [key] T.zs) j = y := by
      rw [dropL_nth j1, j3, e', if_neg (by simpa using hne)]
    have vX := vis_at hsX hlX hi' (by omega)
    have vY := vis_at hsY hlY j1 (by omega)
    rw [e'] at vX
    rw [hyY] at vY
    have aY : awN T (dropL [key] T.zs) j = awN T T.zs j := by unfold awN; rw [hyY, j3, e']
    simp only [visOf, hvX, hvY, hk, Bool.and_self, if_true]
    rw [vX, vY, aY]
    omega

/-- What FnShiftClean asks. -/
structure CleanSays (T : Tab) (key : Int) (X Y : Tab) : Prop where
  drop : dropOk T key = true
  len : X.zs.length = T.zs.length
  lenY : Y.zs.length = T.zs.length
  one : 1 ≤ T.zs.length
  top : T.zs.length ≤ 16
  keys : (if validB X then sortU X.zs else []).length ≤ 100
  vis : ∀ k, k < (if validB X then sortU X.zs else []).length → visOf X (nth (if validB X then sortU X.zs else []) k) ≤ visOf Y (nth (if validB X then sortU X.zs else []) k)
  miss : ∀ i : Nat, i < T.zs.length → missI X i ≤ missI Y i
theorem clean_says {T : Tab} {key : Int} (h : shiftOk T key = true) : CleanSays T key (shiftT T key) (dropT T key) := by
  obtain ⟨hd, ⟨vx, vy, lx, ly⟩, hm, hv⟩ := shift_clean h
  obtain ⟨k, S⟩ := shift_says h
  obtain ⟨⟨l1, l2⟩, _⟩ := valid_facts S.val
  refine ⟨hd, lx, ly, l1, l2, ?_, ?_, fun i hi => ?_⟩
  · rw [if_pos vx]; exact sortTo_len _ _
  · rw [if_pos vx]
    intro k hk
    obtain ⟨h1, h2⟩ := sortU_mem.1 (nth_mem hk)
    exact hv _ h2 (inB_true h1)
  · have b1 : inB (i : Int) 0 ((shiftT T key).zs.length - 1) = true := inB_true (by omega)
    have b2 : inB (i : Int) 0 ((dropT T key).zs.length - 1) = true := inB_true (by omega)
    have := hm i
    simp only [missI, vx, vy, b1, b2, Bool.and_self, if_true, Int.toNat_natCast]
    omega

end Go.Proofs.YtpncpeokdcolpaaGreatDoor

namespace Go.Proofs.YtpncpeokdcolpaaGreatDoor

theorem hits_congr {T U : Tab} {l : List Int} (h : ∀ x, x ∈ l → visOf T x = visOf U x) : hitsL T l = hitsL U l := by
  unfold hitsL
  rw [List.map_congr_left h]
theorem sort_set {zs : List Int} {k : Nat} {key : Int} (hk : k < zs.length) (hlow : nth zs k < 0) (h0 : 0 ≤ key) (h9 : key ≤ 99) (hn : key ∉ zs) : (key :: sortU zs).Perm (sortU (zs.set k key)) := by
  have hne : ∀ {l : List Int}, l.Pairwise (· < ·) → l.Nodup := fun h => h.imp fun hlt e => by omega
  have d1 : (key :: sortU zs).Nodup := List.nodup_cons.2 ⟨fun h => hn (sortU_mem.1 h).2, hne (sortU_pairwise zs)⟩
  refine (List.perm_ext_iff_of_nodup d1 (hne (sortU_pairwise _))).2 fun x => ?_
  rw [List.mem_cons, sortU_mem, sortU_mem]
  have hm : ∀ y, 0 ≤ y → (y ∈ zs.set k key ↔ y = key ∨ y ∈ zs) := fun y hy => by
    constructor
    · intro h
      obtain ⟨i, hi, e⟩ := mem_nth h
      rw [List.length_set] at hi
      rw [nth_set hk] at e
      split at e
      · exact .inl e.symm
      · exact .inr (e ▸ nth_mem hi)
    · rintro (rfl | h)
      · have := nth_mem (zs := zs.set k y) (i := k) (by rw [List.length_set]; exact hk)
        rwa [nth_set hk, if_pos rfl] at this
      · obtain ⟨i, hi, e⟩ := mem_nth h
        have hik : i ≠ k := fun c => by subst c; omega
        have := nth_mem (zs := zs.set k key) (i := i) (by rw [List.length_set]; exact hi)
        rwa [nth_set hk, if_neg hik, e] at this
  constructor
  · rintro (rfl | ⟨h1, h2⟩)
    · exact ⟨⟨h0, h9⟩, (hm _ h0).2 (.inl rfl)⟩
    · exact ⟨h1, (hm _ h1.1).2 (.inr h2)⟩
  · rintro ⟨h1, h2⟩
    rcases (hm _ h1.1).1 h2 with h | h
    · exact .inl h
    · exact .inr ⟨h1, h⟩

theorem miss_more {T : Tab} {k : Nat} {key : Int} (hk : k < T.zs.length) (h0 : 0 ≤ key) (i : Nat) : missN T i ≤ missN (putAt T k key) i := by
  have hm := goN_mono (p := freeAt (putAt T k key) i) (q := freeAt T i) (n := T.zs.length) fun d _ hf => by
    simp only [freeAt, beq_iff_eq, putAt_step] at hf ⊢
    have hf2 : nth (T.zs.set k key) (stepS T i d) = -1 := hf
    rw [nth_set hk] at hf2
    split at hf2
    · omega
    · exact hf2
  unfold missN cntN
  rw [putAt_len]
  omega
theorem miss_tomb {T : Tab} {k : Nat} {key : Int} (hk : k < T.zs.length) (h0 : 0 ≤ key) (ht : nth T.zs k = -2) (i : Nat) : missN (putAt T k key) i = missN T i := by
  have : freeAt (putAt T k key) i = freeAt T i := funext fun d => by
    simp only [freeAt, putAt_step]
    have : nth (putAt T k key).zs (stepS T i d) = if stepS T i d = k then key else nth T.zs (stepS T i d) := nth_set hk key _
    rw [this]
    split
    · rename_i e
      rw [e, ht, beq_eq_false_iff_ne.2 (by omega), beq_eq_false_iff_ne.2 (by omega)]
    · rfl
  unfold missN
  rw [this, putAt_len]
theorem missTo_mono {T U : Tab} {n : Nat} (h : ∀ i, i < n → missN T i ≤ missN U i) : missTo T n ≤ missTo U n ∧ ∀ k, k < n → missN T k < missN U k → missTo T n < missTo U n := by
  induction n with
  | zero => exact ⟨Nat.le_refl _, fun k hk => by omega⟩
  | succ n ih =>
    obtain ⟨h1, h2⟩ := ih fun i hi => h i (by omega)
    have h3 := h n (by omega)
    rw [missTo_succ, missTo_succ]
    refine ⟨by omega, fun k hk hlt => ?_⟩
    by_cases c : k = n
    · subst c; omega
    · have := h2 k (by omega) hlt; omega

structure MoreSays (T : Tab) (key : Int) (U : Tab) (k : Nat) : Prop where
  val : validB T = true
  val2 : validB U = true
  len : U.zs.length = T.zs.length
  lt : k < T.zs.length
  find : findOf U key = k
  miss : ∀ i, missN T i ≤ missN U i
  hits : hitI U = hitI T + visOf U key
  all : T.zs.length = 1 ∨ ((nth T.zs k == -2) = (missAll U == missAll T))

theorem more_says {T : Tab} {key : Int} (h : putOk T key = true) : ∃ k, MoreSays T key (putT T key) k := by
  obtain ⟨hp, hs⟩ := putOk_parts h
  have P := put_says h
  have eU : putT T key = putAt T (placeI T key).toNat key := by unfold putT; rw [if_pos h]
  obtain ⟨hv, hkk, hnf, _⟩ := place_asked hp
  rw [eU]
  generalize hk : (placeI T key).toNat = k at P
  have hkb : inB key 0 99 = true := inB_true P.key0
  obtain ⟨⟨l1, _⟩, _⟩ := valid_facts hv
  have hnin : key ∉ T.zs := fun hm => by
    obtain ⟨i, hi, e⟩ := mem_nth hm
    have := sound_find hs hi (by rw [e]; exact P.key0.1)
    rw [e] at this
    omega
  have hvis : ∀ y, y ∈ sortU T.zs → visOf T y = visOf (putAt T k key) y := fun y hy => by
    obtain ⟨hy1, hy2⟩ := sortU_mem.1 hy
    obtain ⟨i, hi, e⟩ := mem_nth hy2
    have hik : i ≠ k := fun c => by subst c; have := P.low; omega
    have v1 := vis_at (T := T) (zs := T.zs) hs rfl hi (by rw [e]; exact hy1.1)
    have e2 : nth (T.zs.set k key) i = y := by rw [nth_set P.lt, if_neg hik, e]
    have v2 := vis_at (T := T) (zs := T.zs.set k key) P.sound2 (by simp) hi (by rw [e2]; exact hy1.1)
    rw [e] at v1
    rw [e2] at v2
    have ea : awN T (T.zs.set k key) i = awN T T.zs i := by unfold awN; rw [e2, e]
    have b : inB y 0 99 = true := inB_true hy1
    have w1 : visN T y (homeN T y) = awN T T.zs i + 1 := v1
    have w2 : visN (putAt T k key) y (homeN (putAt T k key) y) = awN T (T.zs.set k key) i + 1 := v2
    simp only [visOf, hv, P.val2, b, Bool.and_self, if_true]
    rw [w1, w2, ea]
  refine ⟨k, hv, P.val2, putAt_len _ _ _, P.lt, ?_, fun i => miss_more P.lt P.key0.1 i, ?_, ?_⟩
  · unfold findOf
    rw [if_pos (by simp [P.val2, hkb]), P.find2]
  · have hpm := hitsL_perm (T := putAt T k key) (sort_set P.lt P.low P.key0.1 P.key0.2 hnin)
    have hc : hitsL (putAt T k key) (key :: sortU T.zs) = visOf (putAt T k key) key + hitsL (putAt T k key) (sortU T.zs) := by simp [hitsL]
    unfold hitI
    rw [if_pos P.sound2, if_pos hs]
    show hitsL (putAt T k key) (sortU (T.zs.set k key)) = _
    rw [← hpm, hc, hits_congr hvis]
    omega
  · by_cases n1 : T.zs.length = 1
    · exact .inl n1
    · right
      have hl := valid_slot hv P.lt
      have hlow := P.low
      unfold missAll
      rw [if_pos hv, if_pos P.val2, putAt_len]
      by_cases c : nth T.zs k = -2
      · have e : missTo (putAt T k key) T.zs.length = missTo T T.zs.length := by
          unfold missTo
          rw [List.map_congr_left fun i _ => miss_tomb P.lt P.key0.1 c i]
        rw [e, c]
        simp
      · have cf : nth T.zs k = -1 := by omega
        have h1 : missN T k = 1 := miss_free P.lt cf
        have h2 : 2 ≤ missN (putAt T k key) k := by
          unfold missN cntN
          rw [putAt_len]
          have : goN (freeAt (putAt T k key) k) T.zs.length ≠ 0 := fun e => by
            have := goN_stop (p := freeAt (putAt T k key) k) (n := T.zs.length) (by omega)
            rw [e] at this
            simp only [freeAt, putAt_step, beq_iff_eq] at this
            have e0 : stepS T k 0 = k := Nat.mod_eq_of_lt P.lt
            have e1 : nth (T.zs.set k key) (stepS T k 0) = -1 := this
            rw [e0, nth_set P.lt, if_pos rfl] at e1
            have := P.key0
            omega
          omega
        have hlt := (missTo_mono (T := T) (U := putAt T k key) (n := T.zs.length) fun i _ => miss_more P.lt P.key0.1 i).2 k P.lt (by omega)
        rw [cf, beq_eq_false_iff_ne.2 (by omega), beq_eq_false_iff_ne.2 (by omega)]

theorem hitI_bounds (T : Tab) : -1 ≤ hitI T ∧ hitI T ≤ 1600 := by
  unfold hitI
  split
  · rename_i hs
    have hv : validB T = true := by
      simp only [soundB, Bool.and_eq_true] at hs
      exact hs.1
    have h1 := hitsL_bounds hv (l := sortU T.zs) fun x hx => inB_true (sortU_mem.1 hx).1
    have h2 : (sortU T.zs).length ≤ 100 := sortTo_len _ _
    omega
  · omega
theorem visOf_range (T : Tab) (key : Int) : -1 ≤ visOf T key ∧ visOf T key ≤ 16 := by
  by_cases h : (validB T && inB key 0 99) = true
  · simp only [Bool.and_eq_true] at h
    have := visOf_bounds h.1 h.2
    omega
  · have : visOf T key = -1 := by simp [visOf, h]
    omega
theorem MoreSays.at_ {T : Tab} {key : Int} {U : Tab} {k : Nat} (M : MoreSays T key U k) {i : Nat} (hi : i < T.zs.length) : missI T i ≤ missI U i := by
  have b1 : inB (i : Int) 0 (T.zs.length - 1) = true := inB_true (by omega)
  have b2 : inB (i : Int) 0 (U.zs.length - 1) = true := inB_true (by rw [M.len]; omega)
  have := M.miss i
  simp only [missI, M.val, M.val2, b1, b2, Bool.and_self, if_true, Int.toNat_natCast]
  omega

end Go.Proofs.YtpncpeokdcolpaaGreatDoor

namespace Go.Proofs.YtpncpeokdcolpaaGreatDoor

/-- As many free slots (as FairOf has them). -/
def freeG (T : Tab) : Tab := ⟨T.t, T.p, List.replicate T.zs.length (-1)⟩
def keysG (T : Tab) : List Int := if validB T then sortU T.zs else []
def fogOk (T : Tab) : Bool := fallOk (freeG T) (keysG T)

theorem free_fair {T : Tab} (hv : validB T = true) : fairB (freeG T) = true := by
  obtain ⟨⟨l1, l2⟩, _⟩ := valid_facts hv
  have hl : (freeG T).zs.length = T.zs.length := by simp [freeG]
  have hn : ∀ i, i < T.zs.length → nth (freeG T).zs i = -1 := fun i hi => nth_rep hi
  have hv2 : validB (freeG T) = true := by
    have := (clean_nil hv).snd
    simp only [soundB, Bool.and_eq_true] at this
    exact this.1
  refine lok_fair hv2 (fun i hi => by rw [hl] at hi; rw [hn i hi]; omega) (by rw [← hn 0 (by omega)]; exact nth_mem (by omega)) fun i hi => .inl ?_
  rw [hl] at hi ⊢
  rw [free_away (by rw [hn _ (Nat.mod_lt _ (by omega))]; omega)]
  omega
theorem keysG_ok (T : Tab) (hv : validB T = true) : keysB (keysG T) = true := by
  unfold keysG
  rw [if_pos hv]
  simp only [keysB, Bool.and_eq_true, decide_eq_true_eq, List.all_eq_true]
  exact ⟨sortTo_len _ _, fun x hx => inB_true (sortU_mem.1 hx).1⟩
theorem keysG_mem {T : Tab} (hv : validB T = true) {z : Int} (h0 : 0 ≤ z) (h9 : z ≤ 99) : (z ∈ (freeG T).zs ∨ z ∈ keysG T) ↔ z ∈ T.zs := by
  unfold keysG
  rw [if_pos hv, sortU_mem]
  constructor
  · rintro (h | h)
    · have := List.eq_of_mem_replicate h
      omega
    · exact h.2
  · intro h
    exact .inr ⟨⟨h0, h9⟩, h⟩
/-- The fair table of a table's keys. -/
theorem fog_says {T : Tab} (hv : validB T = true) (h : fogOk T = true) : ∃ zs, fallT (freeG T) (keysG T) = tab T zs ∧ FairZ T zs (fun z => z ∈ T.zs) := by
  obtain ⟨_, _, zs, e, Z⟩ := fall_says h
  have hl : (freeG T).zs.length = T.zs.length := by simp [freeG]
  exact ⟨zs, e, Z.fair, Z.len.trans hl, fun z h0 h9 => (Z.mem z h0 h9).trans (keysG_mem hv h0 h9)⟩
/-- A table of whose keys a fair row has all has a fair one. -/
theorem fog_ok {T : Tab} (hv : validB T = true) {xs : List Int} {S : Int → Prop} (X : FairZ T xs S) (hs : ∀ z, z ∈ T.zs → 0 ≤ z → z ≤ 99 → S z) : fogOk T = true := by
  have hl : (freeG T).zs.length = T.zs.length := by simp [freeG]
  refine fall_room (T := freeG T) (free_fair hv) (keysG_ok T hv) (xs := xs) (S := S) ⟨X.fair, X.len.trans hl.symm, X.mem⟩ (fun z h0 h9 hz => ?_) fun z hz => ?_
  · exact hs z ((keysG_mem hv h0 h9).1 (.inl hz)) h0 h9
  · unfold keysG at hz
    rw [if_pos hv] at hz
    obtain ⟨⟨h0, h9⟩, h⟩ := sortU_mem.1 hz
    exact hs z h h0 h9
/-- A fair table is the fair one of its keys. -/
theorem fog_fair {T : Tab} (hf : fairB T = true) : fogOk T = true ∧ fallT (freeG T) (keysG T) = T := by
  have hv : validB T = true := (plain_parts (fair_parts hf).1).2.1
  have X := fairZ_start hf
  have ok := fog_ok hv X fun z h _ _ => h
  obtain ⟨zs, e, Z⟩ := fog_says hv ok
  refine ⟨ok, ?_⟩
  rw [e, Z.uniq X fun z _ _ => Iff.rfl]
  rfl

/-- A clean table's row. -/
theorem clean_row {T : Tab} (hs : soundB T = true) : ∃ ys, cleanT T = tab T ys ∧ plainB (tab T ys) = true ∧ ys.length = T.zs.length ∧ sortU ys = sortU T.zs := by
  have hv := (sound_all.1 hs).1
  obtain ⟨_, _, _, hg⟩ := valid_facts hv
  have C := clean_to hv T.zs.length (Nat.le_refl _)
  rw [List.take_length] at C
  rw [cleanT_yes hs]
  generalize putsT T (keysLL T.zs) = Y at C
  have e : Y = tab T Y.zs := by
    obtain ⟨t, p, zs⟩ := Y
    have h1 := C.t
    have h2 := C.p
    simp only at h1 h2
    subst h1 h2
    rfl
  have hpl : plainB (tab T Y.zs) = true := by
    rw [← e]
    simp only [plainB, Bool.and_eq_true, Bool.not_eq_true']
    refine ⟨C.snd, decide_eq_false fun h => ?_⟩
    obtain ⟨i, hi, e2⟩ := mem_nth h
    rw [C.len] at hi
    exact C.tomb i hi e2
  refine ⟨Y.zs, e, hpl, C.len, ?_⟩
  -- as many keys, and all of them T's: the same
  have P := plainZ hpl C.len
  have hYg : Good Y.zs Y.zs.length := by rw [C.len]; exact P.good
  have hsub : ∀ z, z ∈ sortU Y.zs → z ∈ sortU T.zs := fun z hz => by
    obtain ⟨⟨h0, h9⟩, hm⟩ := sortU_mem.1 hz
    obtain ⟨i, hi, e2⟩ := mem_nth hm
    rw [C.len] at hi
    have := C.keys i hi (by omega)
    rw [e2] at this
    exact sortU_mem.2 ⟨⟨h0, h9⟩, (List.mem_filter.1 this).1⟩
  have hpT : (T.zs.filter fun x => inB x 0 99).Perm (sortU T.zs) := by
    rw [← sort_keys hg]
    exact (List.mergeSort_perm _ _).symm
  have hpY : (Y.zs.filter fun x => inB x 0 99).Perm (sortU Y.zs) := by
    rw [← sort_keys hYg]
    exact (List.mergeSort_perm _ _).symm
  have hlen : (sortU Y.zs).length = (sortU T.zs).length := by
    rw [← hpT.length_eq, ← hpY.length_eq]
    have h1 := C.cnt
    unfold cnt at h1
    rw [List.take_length, List.countP_eq_length_filter] at h1
    have h2 : (Y.zs.filter fun x => inB x 0 99) = Y.zs.filter keyP := List.filter_congr fun x hx => by
      obtain ⟨i, hi, e2⟩ := mem_nth hx
      rw [C.len] at hi
      by_cases c : x = -1
      · subst c; decide
      · have hk := P.key i hi (by rw [e2]; exact c)
        rw [e2] at hk
        have h3 : x ≠ -2 := by omega
        rw [inB_true hk]
        simp [keyP, c, h3]
    rw [h2, h1]
    rfl
  refine sortU_same fun z h0 h9 => ?_
  have hz : z ∈ sortU Y.zs ↔ z ∈ sortU T.zs := by
    refine ⟨hsub z, fun h => ?_⟩
    by_cases c : z ∈ sortU Y.zs
    · exact c
    · have := nodup_length (l := z :: sortU Y.zs) (m := sortU T.zs) (List.nodup_cons.2 ⟨c, sortU_nodup _⟩) fun y hy => by
        rcases List.mem_cons.1 hy with rfl | hy
        · exact h
        · exact hsub y hy
      simp only [List.length_cons] at this
      omega
  rw [sortU_mem, sortU_mem] at hz
  constructor
  · intro h; exact (hz.1 ⟨⟨h0, h9⟩, h⟩).2
  · intro h; exact (hz.2 ⟨⟨h0, h9⟩, h⟩).2
/-- A row of fewer keys than slots has a free one. -/
theorem plain_free {T : Tab} {zs : List Int} (P : PlainZ T zs) (h : (sortU zs).length < T.zs.length) : -1 ∈ zs := by
  by_cases c : -1 ∈ zs
  · exact c
  · exfalso
    have hp : (zs.filter fun x => inB x 0 99).Perm (sortU zs) := by
      rw [← sort_keys (zs := zs) (by rw [P.len]; exact P.good)]
      exact (List.mergeSort_perm _ _).symm
    have h1 : (zs.filter fun x => inB x 0 99) = zs := List.filter_eq_self.2 fun x hx => by
      obtain ⟨i, hi, e⟩ := mem_nth hx
      rw [P.len] at hi
      have := P.key i hi (by rw [e]; intro e2; exact c (e2 ▸ hx))
      rw [e] at this
      exact inB_true this
    have := hp.length_eq
    rw [h1, P.len] at this
    omega
theorem FairZ.few {T : Tab} {zs : List Int} {S : Int → Prop} (h : FairZ T zs S) : (sortU zs).length < T.zs.length := by
  have := h.count
  omega
theorem FairZ.sort {T : Tab} {zs : List Int} (h : FairZ T zs (fun z => z ∈ T.zs)) : sortU zs = sortU T.zs := sortU_same h.mem

/-- What is visited, by how far keys are away. -/
theorem hits_away {T : Tab} {zs : List Int} (P : PlainZ T zs) (hp : plainB (tab T zs) = true) : hitI (tab T zs) = ((sortU zs).length : Int) + (sumU (awS T zs) T.zs.length : Nat) := by
  obtain ⟨hs, hv, _⟩ := plain_parts hp
  have hperm : (zs.filter fun x => inB x 0 99).Perm (sortU zs) := by
    rw [← sort_keys (zs := zs) (by rw [P.len]; exact P.good)]
    exact (List.mergeSort_perm _ _).symm
  unfold hitI
  rw [if_pos hs]
  show hitsL (tab T zs) (sortU zs) = _
  rw [← hitsL_perm hperm, ← hperm.length_eq]
  have h : ∀ k, k ≤ T.zs.length → hitsL (tab T zs) ((zs.take k).filter fun x => inB x 0 99) = (((zs.take k).filter fun x => inB x 0 99).length : Int) + (sumU (awS T zs) k : Nat) := fun k => by
    induction k with
    | zero => intro _; simp [hitsL, sumU]
    | succ k ih =>
      intro hk
      have hkl : k < zs.length := by rw [P.len]; omega
      have e : nth zs k = zs[k] := by simp [nth, List.getElem?_eq_getElem hkl]
      rw [List.take_succ_eq_append_getElem hkl, List.filter_append, ← e, sumU_succ]
      have hi := ih (by omega)
      by_cases c : nth zs k = -1
      · rw [c]
        simp only [awS, c, if_true]
        have : (List.filter (fun x => inB x 0 99) [(-1 : Int)]) = [] := by decide
        rw [this, List.append_nil, hi]
        simp
      · have hkk := P.key k (by omega) c
        have hb := inB_true hkk
        have v := vis_at (T := T) (zs := zs) hs P.len (i := k) (by omega) hkk.1
        have hvo : visOf (tab T zs) (nth zs k) = ((awN T zs k + 1 : Nat) : Int) := by
          simp only [visOf, hv, hb, Bool.and_self, if_true]
          rw [v]
        have hf1 : (List.filter (fun x => inB x 0 99) [nth zs k]) = [nth zs k] := by simp [hb]
        rw [hf1, hitsL_snoc, hi, hvo]
        simp only [awS, c, if_false, List.length_append, List.length_cons, List.length_nil]
        omega
  have := h T.zs.length (Nat.le_refl _)
  rw [← P.len, List.take_length, P.len] at this
  exact this

/-- What FnFairHits asks. -/
structure FairHits (X Y : Tab) (n : Nat) : Prop where
  lenX : X.zs.length = n
  lenY : Y.zs.length = n
  top : n ≤ 16
  miss : ∀ i : Nat, i < n → missI X i = missI Y i ∧ fmissI X i ≤ missI Y i
  hits : hitI X = hitI Y
  most : mostAway X ≤ mostAway Y
theorem fairhits_says {T : Tab} (hs : soundB T = true) (ok : fogOk T = true) : FairHits (fallT (freeG T) (keysG T)) (cleanT T) T.zs.length := by
  have hv := (sound_all.1 hs).1
  obtain ⟨⟨l1, l2⟩, _⟩ := valid_facts hv
  obtain ⟨xs, ex, X⟩ := fog_says hv ok
  obtain ⟨ys, ey, hp, hl, hk⟩ := clean_row hs
  have Q := plainZ hp hl
  have P := X.plain
  have hsx := X.sort
  have hxm : -1 ∈ xs := (fair_parts X.fair).2.1
  have hym : -1 ∈ ys := plain_free Q (by rw [hk, ← hsx]; exact X.few)
  have hkk : sortU xs = sortU ys := by rw [hsx, hk]
  rw [ex, ey]
  refine ⟨X.len, hl, l2, fun i hi => ?_, ?_, most_le X.fair P Q hym hkk⟩
  · have hmn : missN (tab T xs) i = missN (tab T ys) i := by
      have e1 : (tab T xs).zs.length = T.zs.length := X.len
      have e2 : (tab T ys).zs.length = T.zs.length := hl
      have : freeAt (tab T xs) i = freeAt (tab T ys) i := funext fun d => by
        have s1 : stepS (tab T xs) i d = stepS T i d := by simp [stepS, tab, X.len]
        have s2 : stepS (tab T ys) i d = stepS T i d := by simp [stepS, tab, hl]
        unfold freeAt
        rw [s1, s2]
        have ho := occ_same P Q hxm hym hkk (stepS_lt (T := T) l1 i d)
        show (nth xs (stepS T i d) == -1) = (nth ys (stepS T i d) == -1)
        rw [Bool.eq_iff_iff, beq_iff_eq, beq_iff_eq]
        exact ho
      unfold missN
      rw [this, e1, e2]
    have b1 : inB (i : Int) 0 ((tab T xs).zs.length - 1) = true := inB_true (by show 0 ≤ (i : Int) ∧ (i : Int) ≤ (xs.length : Int) - 1; rw [X.len]; omega)
    have b2 : inB (i : Int) 0 ((tab T ys).zs.length - 1) = true := inB_true (by show 0 ≤ (i : Int) ∧ (i : Int) ≤ (ys.length : Int) - 1; rw [hl]; omega)
    have hle := fmiss_le (T := tab T xs) i
    simp only [missI, fmissI, X.val, Q.val, X.fair, b1, b2, Bool.and_self, if_true, Int.toNat_natCast]
    omega
  · rw [hits_away P (fair_parts X.fair).1, hits_away Q hp, hkk, tot_same P Q hxm hym hkk]

end Go.Proofs.YtpncpeokdcolpaaGreatDoor

namespace Go.Proofs.YtpncpeokdcolpaaGreatDoor
open Go.RowKit

variable {F : Fence} {n : Nat} {P : Program}

/-- What such an iterator promises: gs is the block that it writes; what lies below B it finds behind each round as it left it. -/
def SeqWrites (F : Fence) (n : Nat) (P : Program) (gf : Nat) (lb : Array Value) (gs B N : Nat) (S : List Int → World → Prop) (w : World) : Prop :=
  ∀ (l : Nat) (J : List Int → World → Prop) (W : World), Below B w W →
    (∀ s A o v, J s A → J s (A.setCell ⟨gs, o, none⟩ v)) → (∀ s A A', J s A → Below A.heap.size A A' → J s A') →
    (∀ pre x W1, J pre W1 → pre.length < N → YieldAt F (n - 1) P l #[.int .i64 x] W1 fun e W' => e = .returned (.bool true) ∧ J (pre ++ [x]) W' ∧ Below B W1 W') →
    J [] W →
    CallsIn F n P gf (#[.func (.yield l) #[] #[]] ++ lb) W fun e W' => (∃ v, e = .returned v) ∧ ∃ xs, xs.length ≤ N ∧ S xs W' ∧ J xs W'

theorem below_putObj {B : Nat} {A : World} {l : Nat} (hl : B ≤ l) (o : Obj) : Below B A (A.putObj l o) :=
  ⟨rfl, rfl, rfl, by simp, fun k hk => World.putObj_heap_other (by omega)⟩
theorem heap_of_below {A A' : World} (h : Below A.heap.size A A') {k : Nat} {o : Obj} (hk : A.heap[k]? = some o) : A'.heap[k]? = some o :=
  (h.block k (Array.getElem?_eq_some_iff.1 hk).1).trans hk
theorem heap_of_set {A : World} {p : Addr} {v : Value} {k : Nat} {o : Obj} (hk : A.heap[k]? = some o) (hne : k ≠ p.block) : (A.setCell p v).heap[k]? = some o :=
  (Below.heap_setCell A p v k hne).trans hk

set_option maxHeartbeats 1000000 in
theorem rangeW {g : Operand} {ps : Array Tmp} {assign body : Code} {Q : Exit → Act → World → Prop} {a : Act} {w : World}
    (hro : F.round = none) (h1 : 1 ≤ n) {gf : Nat} {lb : Array Value} (hg : a.eval g = .func (.func gf) #[] lb) (hFg : F.fn gf) (eg : ∀ args w, (callFunc gf args).run P w = .ok (.enter gf args) w)
    {gs B N : Nat} {S : List Int → World → Prop} {w0 : World} (hseq : SeqWrites F (n - 1) P gf lb gs B N S w0) (hb0 : Below B w0 w) (hB : B ≤ w.heap.size) (hgs : gs < B) (hps : ps.size = 1)
    (I : List Int → World → Prop) (hI1 : ∀ s A o v, I s A → I s (A.setCell ⟨gs, o, none⟩ v)) (hI2 : ∀ s A A', I s A → Below A.heap.size A A' → I s A')
    (hI3 : ∀ s A l o o', I s A → w.heap.size ≤ l → A.heap[l]? = some o → o.isCells = false → I s (A.putObj l o'))
    (hS : ∀ s A A', S s A → A'.heap[gs]? = A.heap[gs]? → A.heap.size ≤ A'.heap.size → S s A')
    (h0 : I [] w) (a₁ : Int → Act)
    (hassign : ∀ (l : Nat) (x : Int) (W : World) (K : Act → World → Prop), K (a₁ x) W →
      assign.wpIn (F.inRound l) (n - 1 - 1) P (Exit.then K (fun _ _ _ => False)) { tmps := (ps.zip #[Value.int .i64 x]).foldl (fun t (p, v) => t.setIfInBounds p v) a.tmps, defers := [] } W)
    (hbody : ∀ (l : Nat) (pre : List Int) (x : Int) (W : World), I pre W → pre.length < N → body.wpIn (F.inRound l) (n - 1 - 1) P (Exit.then (fun _ W' => KeepsOthers W W' ∧ Below B W W' ∧ I (pre ++ [x]) W') (fun _ _ _ => False)) (a₁ x) W)
    (hdone : ∀ (D : Nat) (xs : List Int) (W : World), w.heap.size ≤ D → xs.length ≤ N → S xs W → I xs W → W.heap[D]? = some (.deferred (some [])) → Q .normal { a with defers := { target := .collected D, args := #[] } :: a.defers } W) :
    (Code.rangeFunc g ps assign body).wpIn F n P Q a w := by
  refine wpIn_rangeFunc ?_
  intro fn hfn
  rw [hro]
  -- the record and the block of its rounds' deferred calls
  let rec0 : LoopState → Loop := fun st => { state := st, pending := none, fn, tmps := a.tmps, params := ps, assign, body, defers := w.heap.size }
  obtain ⟨rc, hrc⟩ : ∃ rc, rc = rec0 := ⟨_, rfl⟩
  let W1 : World := (w.alloc (.deferred (some []))).alloc (.loop (rc .ready))
  have hD : w.heap.size ≠ gs := by omega
  have hL : w.heap.size + 1 ≠ gs := by omega
  have hbw : Below w.heap.size w W1 := ((Below.refl _ w).alloc (Nat.le_refl _) _).alloc (by simp) _
  have hl1 : W1.heap[w.heap.size + 1]? = some (.loop (rc .ready)) := by
    have := World.alloc_heap_new (w.alloc (.deferred (some []))) (.loop (rc .ready)); rwa [World.size_alloc] at this
  have hd1 : W1.heap[w.heap.size]? = some (.deferred (some [])) := (Below.heap_alloc _ _ _ (by simp)).trans (World.alloc_heap_new w _)
  refine ⟨w.heap.size + 1, [{ target := .collected w.heap.size, args := #[] }], W1, { target := .fn (.func gf) lb, args := #[.func (.yield (w.heap.size + 1)) #[] #[]] }, W1, gf,
    #[.func (.yield (w.heap.size + 1)) #[] #[]] ++ lb, W1, ?_, ?_, ?_, ?_, fun _ => h1, ?_⟩
  · show _ = Result.ok _ ((w.alloc (.deferred (some []))).alloc (.loop (rc .ready)))
    rw [hrc]; exact run_enterLoop_outer _ _ _ _ _
  · simp only [resolve, hg]
    simp [go_sem]
  · intro f' hf'; simp [Target.leads] at hf'; subst hf'; exact hFg
  · simp [invoke, go_sem, eg]
  · refine (hseq (w.heap.size + 1) (fun s A => I s A ∧ A.heap[w.heap.size + 1]? = some (.loop (rc .ready)) ∧ A.heap[w.heap.size]? = some (.deferred (some []))) W1
      (hb0.trans (hbw.mono hB)) (fun s A o v h => ⟨hI1 s A o v h.1, heap_of_set h.2.1 hL, heap_of_set h.2.2 hD⟩)
      (fun s A A' h hb => ⟨hI2 s A A' h.1 hb, heap_of_below hb h.2.1, heap_of_below hb h.2.2⟩) ?_ ⟨hI2 _ _ _ h0 hbw, hl1, hd1⟩).mono ?_
    · rintro pre x A ⟨hi, hl, hd⟩ hlen
      have hlt : w.heap.size + 1 < A.heap.size := (Array.getElem?_eq_some_iff.1 hl).1
      have hy := run_yield (P := P) (args := #[Value.int .i64 x]) hl (by rw [hrc]; exact hps.symm)
      rw [hrc] at hy
      refine ⟨fn, _, assign, body, hy, roundIn_of_wpIn hfn (hassign _ x A _ ⟨_, run_beginRound hl (by rw [hrc]), ?_⟩)⟩
      have hl2 : (A.putObj (w.heap.size + 1) (.loop (rc .busy))).heap[w.heap.size + 1]? = some (.loop (rc .busy)) := World.putObj_heap_same hlt
      have hd2 : (A.putObj (w.heap.size + 1) (.loop (rc .busy))).heap[w.heap.size]? = some (.deferred (some [])) := (World.putObj_heap_other (by omega)).trans hd
      have hbz : { rc .ready with state := .busy } = rc .busy := by rw [hrc]
      rw [hbz]
      refine wpIn_mono (hbody _ pre x _ (hI3 _ _ _ _ _ hi (by omega) hl rfl) hlen) ?_
      rintro e a3 A3 hp
      cases e with
      | normal =>
        obtain ⟨hk, hbB, hi3⟩ := hp
        have hl3 := hk.same _ _ hl2 rfl
        have hd3 := hk.same _ _ hd2 rfl
        have hend := run_endRound (P := P) none hl3
        have hrz : { rc .busy with state := if (none : Option Code).isNone then .ready else .done, pending := none } = rc .ready := by rw [hrc]; rfl
        rw [hrz] at hend
        refine ⟨_, _, hend, rfl, ⟨hI3 _ _ _ _ _ hi3 (by omega) hl3 rfl, World.putObj_heap_same (Array.getElem?_eq_some_iff.1 hl3).1, (World.putObj_heap_other (by omega)).trans hd3⟩, ?_⟩
        exact ((below_putObj (by omega) _).trans hbB).trans (below_putObj (by omega) _)
      | ret => exact hp.elim
      | exit id => exact hp.elim
      | goto t => exact hp.elim
      | panic ch => exact hp.elim
      | outgrown => exact hp.elim
    · rintro e A ⟨⟨v, rfl⟩, xs, hlx, hs, hi, hl, hd⟩
      have hend := run_endLoop (P := P) hl (by rw [hrc]; simp [rec0])
      have hp : (rc .ready).pending = none := by rw [hrc]
      rw [hp] at hend
      refine ⟨none, _, hend, ?_⟩
      exact hdone _ xs _ (Nat.le_refl _) hlx (hS _ _ _ hs (World.putObj_heap_other (Ne.symm hL)) (by simp)) (hI3 _ _ _ _ _ hi (by omega) hl rfl) ((World.putObj_heap_other (by omega)).trans hd)

end Go.Proofs.YtpncpeokdcolpaaGreatDoor

namespace Go.Proofs.YtpncpeokdcolpaaGreatDoor

theorem awN_tab {T : Tab} {zs' : List Int} (hl : zs'.length = T.zs.length) (zs : List Int) (i : Nat) : awN (tab T zs') zs i = awN T zs i := by
  unfold awN
  rw [tab_home hl]
  show dst zs'.length _ _ = _
  rw [hl]
theorem shiftF_tab {T : Tab} {zs' : List Int} (hl : zs'.length = T.zs.length) : ∀ (f : Nat) (zs : List Int) (h d : Nat), shiftF (tab T zs') f zs h d = shiftF T f zs h d := by
  intro f
  induction f with
  | zero => intro zs h d; rfl
  | succ f ih =>
    intro zs h d
    have e : (tab T zs').zs.length = T.zs.length := hl
    simp only [shiftF, e, awN_tab hl, ih]
theorem meas_tab {T : Tab} {zs' : List Int} (hl : zs'.length = T.zs.length) (zs : List Int) (d : Nat) : meas (tab T zs') zs d = meas T zs d := by
  have e : (tab T zs').zs.length = T.zs.length := hl
  unfold meas
  rw [e]
  congr 2
  refine sumN_same fun j _ => ?_
  unfold awZ
  rw [awN_tab hl]
theorem shiftZ_tab {T : Tab} {zs' : List Int} (hl : zs'.length = T.zs.length) (zs : List Int) (k : Nat) : shiftZ (tab T zs') zs k = shiftZ T zs k := by
  unfold shiftZ shiftR
  rw [shiftF_tab hl, meas_tab hl]

/-- What one key does to the slots. -/
structure StepYes (T : Tab) (zs : List Int) (x : Int) (k : Nat) : Prop where
  lt : k < T.zs.length
  find : findI (tab T zs) x = k
  ok : shiftOk (tab T zs) x = true
  res : shiftT (tab T zs) x = tab T (stepZ T zs x)
  eq : (shiftZ (tab T zs) zs k).2 = stepZ T zs x
  hole : Hole (tab T zs) ((tab T zs).zs.set k (-1)) k 1
theorem step_says {T : Tab} {zs : List Int} (h : Left T zs) {x : Int} (h0 : 0 ≤ x) (h9 : x ≤ 99) :
    (∃ k, StepYes T zs x k) ∨ (findI (tab T zs) x = -1 ∧ shiftOk (tab T zs) x = false ∧ stepZ T zs x = zs) := by
  have hp := left_plain h
  have hfo : findOf (tab T zs) x = findI (tab T zs) x := by
    unfold findOf
    rw [if_pos (by rw [h.val, inB_true ⟨h0, h9⟩]; rfl)]
  by_cases hf : 0 ≤ findI (tab T zs) x
  · left
    obtain ⟨a, b, e⟩ := left_find h hf
    have hok : shiftOk (tab T zs) x = true := by
      simp only [shiftOk, hp, hfo, Bool.and_true, decide_eq_true_eq]; exact hf
    obtain ⟨k, D⟩ := shift_says hok
    have ek : k = (findI (tab T zs) x).toNat := by
      have := D.find
      rw [hfo] at this
      rw [this]; simp
    have hz : stepZ T zs x = (shiftZ T zs k).2 := by unfold stepZ; rw [if_pos hf, ek]
    have hz2 : (shiftZ (tab T zs) zs k).2 = stepZ T zs x := by rw [shiftZ_tab h.len, hz]
    refine ⟨k, by rw [ek]; exact a, by rw [ek]; exact e.symm, hok, ?_, hz2, D.hole⟩
    unfold shiftT
    rw [if_pos hok, D.find, Int.toNat_natCast]
    show tab (tab T zs) (shiftZ (tab T zs) zs k).2 = _
    rw [hz2]
    rfl
  · right
    have e : findI (tab T zs) x = -1 := (find_no (by omega)).1
    refine ⟨e, ?_, ?_⟩
    · simp only [shiftOk, hp, hfo, Bool.and_true, decide_eq_false_iff_not]; exact hf
    · unfold stepZ; rw [if_neg hf]

end Go.Proofs.YtpncpeokdcolpaaGreatDoor

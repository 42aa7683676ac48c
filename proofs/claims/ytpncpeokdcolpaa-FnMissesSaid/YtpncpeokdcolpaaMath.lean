/-
  Tables, finding, putting and runs as plain functions, and what is true of them. No program.
-/
import Derived.RowKit3
namespace Go.Proofs.Ytpncpeokdcolpaa

/-- A table as data. -/
structure Tab where
  t : Int
  p : Int
  zs : List Int

/-- lo to hi, both included -/
def inB (n lo hi : Int) : Bool := decide (lo ≤ n) && decide (n ≤ hi)
theorem inB_true {n lo hi : Int} (h : lo ≤ n ∧ n ≤ hi) : inB n lo hi = true := by simp [inB, h]
theorem inB_iff {n lo hi : Int} : inB n lo hi = true ↔ lo ≤ n ∧ n ≤ hi := by simp [inB]
theorem inB_false {n lo hi : Int} : inB n lo hi = false ↔ ¬ (lo ≤ n ∧ n ≤ hi) := by rw [← inB_iff]; simp

/-- The head of a table: its size, Times and Plus. -/
def headB (size times plus : Int) : Bool := inB size 1 16 && (inB times 0 15 && inB plus 0 15)
theorem head_size {n t p : Int} (h : headB n t p = true) : inB n 1 16 = true ∧ inB t 0 15 = true ∧ inB p 0 15 = true := by simpa [headB, and_assoc] using h

/-- What slot i of a list holds (0 behind its end). -/
abbrev nth (zs : List Int) (i : Nat) : Int := zs[i]?.getD 0

/-- The first k slots hold keys, free slots or tombs, and no key twice. -/
def Good (zs : List Int) (k : Nat) : Prop := ∀ i, i < k → inB (nth zs i) (-2) 99 = true ∧ (0 ≤ nth zs i → ∀ j, j < i → nth zs j ≠ nth zs i)
instance (zs : List Int) (k : Nat) : Decidable (Good zs k) := by unfold Good; infer_instance

def validB (T : Tab) : Bool := headB T.zs.length T.t T.p && decide (Good T.zs T.zs.length)
theorem validB_iff {T : Tab} : validB T = true ↔ headB T.zs.length T.t T.p = true ∧ Good T.zs T.zs.length := by simp [validB]

theorem Good.zero (zs : List Int) : Good zs 0 := fun _ h => by omega
theorem Good.succ {zs : List Int} {k : Nat} (h : Good zs k) (h1 : inB (nth zs k) (-2) 99 = true) (h2 : 0 ≤ nth zs k → ∀ j, j < k → nth zs j ≠ nth zs k) : Good zs (k + 1) := by
  intro i hi
  by_cases e : i = k
  · subst e; exact ⟨h1, h2⟩
  · exact h i (by omega)
theorem not_good {zs : List Int} {k n : Nat} (hk : k < n) (h : ¬ (inB (nth zs k) (-2) 99 = true ∧ (0 ≤ nth zs k → ∀ j, j < k → nth zs j ≠ nth zs k))) : ¬ Good zs n := fun hg => h (hg k hk)

/-- The first slot that holds n, or -1. -/
def fnd (zs : List Int) (n : Int) : Int := if zs.findIdx (· == n) < zs.length then zs.findIdx (· == n) else -1
theorem fnd_at {zs : List Int} {n : Int} {k : Nat} (hk : k < zs.length) (h : ∀ j, j < k → nth zs j ≠ n) (he : nth zs k = n) : fnd zs n = k := by
  have e : zs.findIdx (· == n) = k := by
    refine (List.findIdx_eq hk).2 ⟨?_, fun j hj => ?_⟩
    · rw [nth, List.getElem?_eq_getElem hk] at he
      simpa using he
    · have := h j hj
      rw [nth, List.getElem?_eq_getElem (by omega)] at this
      simpa using this
  simp [fnd, e, hk]
theorem fnd_none {zs : List Int} {n : Int} (h : ∀ j, j < zs.length → nth zs j ≠ n) : fnd zs n = -1 := by
  have e : zs.findIdx (· == n) = zs.length := by
    rw [List.findIdx_eq_length]
    intro x hx
    obtain ⟨j, hj, rfl⟩ := List.mem_iff_getElem.1 hx
    have := h j hj
    rw [nth, List.getElem?_eq_getElem hj] at this
    simpa using this
  simp [fnd, e]
theorem fnd_cases (zs : List Int) (n : Int) : (fnd zs n = -1 ∧ ∀ j, j < zs.length → nth zs j ≠ n) ∨ (∃ k : Nat, k < zs.length ∧ fnd zs n = k ∧ nth zs k = n ∧ ∀ j, j < k → nth zs j ≠ n) := by
  by_cases h : zs.findIdx (· == n) < zs.length
  · right
    refine ⟨zs.findIdx (· == n), h, by simp [fnd, h], ?_, fun j hj => ?_⟩
    · have := List.findIdx_getElem (w := h)
      rw [nth, List.getElem?_eq_getElem h]
      simpa using this
    · have := List.not_of_lt_findIdx hj
      rw [nth, List.getElem?_eq_getElem (by omega)]
      simpa using this
  · left
    refine ⟨by simp [fnd, h], fun j hj => ?_⟩
    have h1 : zs.findIdx (· == n) = zs.length := Nat.le_antisymm (List.findIdx_le_length) (by omega)
    have := (List.findIdx_eq_length (p := (· == n))).1 h1 zs[j] (List.getElem_mem hj)
    rw [nth, List.getElem?_eq_getElem hj]
    simpa using this

theorem ne_step {zs : List Int} {n : Int} {k : Nat} (h : ∀ j, j < k → nth zs j ≠ n) (he : nth zs k ≠ n) : ∀ j, j < k + 1 → nth zs j ≠ n := by
  intro j hj
  by_cases e : j = k
  · subst e; exact he
  · exact h j (by omega)

theorem fnd_first {zs : List Int} {x : Int} {k : Nat} (hk : k < zs.length) (he : nth zs k = x) : fnd zs x = k ↔ ∀ j, j < k → nth zs j ≠ x := by
  constructor
  · intro h
    rcases fnd_cases zs x with ⟨h1, h2⟩ | ⟨m, hm, h1, h2, h3⟩
    · exact absurd he (h2 k hk)
    · obtain rfl : m = k := by omega
      exact h3
  · exact fun h => fnd_at hk h he
theorem fnd_step {zs : List Int} {x : Int} {k : Nat} (hk : k < zs.length) (he : nth zs k = x) (h : (fnd zs x != (k : Int)) = false) : 0 ≤ nth zs k → ∀ j, j < k → nth zs j ≠ nth zs k := by
  intro _
  rw [he]
  exact (fnd_first hk he).1 (by simpa using h)
theorem fnd_bad {zs : List Int} {x : Int} {k : Nat} (hk : k < zs.length) (he : nth zs k = x) (h0 : 0 ≤ x) (h : (fnd zs x != (k : Int)) = true) : ¬ (inB x (-2) 99 = true ∧ (0 ≤ x → ∀ j, j < k → nth zs j ≠ x)) := by
  intro hc
  have := (fnd_first hk he).2 (hc.2 h0)
  simp [this] at h

/-- The home of a key. -/
def homeI (T : Tab) (key : Int) : Int := (T.t * key + T.p) % T.zs.length

theorem mul_bounds {t k : Int} (h1 : 0 ≤ t) (h2 : t ≤ 15) (h3 : -2 ≤ k) (h4 : k ≤ 99) : -30 ≤ t * k ∧ t * k ≤ 1485 := by
  constructor
  · have := Int.mul_le_mul_of_nonneg_left h3 h1; omega
  · by_cases hk : 0 ≤ k
    · have := Int.mul_le_mul h2 h4 hk (by omega); omega
    · have := Int.mul_le_mul_of_nonneg_left (show k ≤ 0 by omega) h1; omega
theorem mul_nonneg' {t k : Int} (h1 : 0 ≤ t) (h3 : 0 ≤ k) : 0 ≤ t * k := Int.mul_nonneg h1 h3

/-- What a valid table gives. -/
theorem valid_facts {T : Tab} (h : validB T = true) : (1 ≤ T.zs.length ∧ T.zs.length ≤ 16) ∧ (0 ≤ T.t ∧ T.t ≤ 15) ∧ (0 ≤ T.p ∧ T.p ≤ 15) ∧ Good T.zs T.zs.length := by
  obtain ⟨h1, h2⟩ := validB_iff.1 h
  obtain ⟨a, b, c⟩ := head_size h1
  obtain ⟨a1, a2⟩ := inB_iff.1 a
  exact ⟨⟨by omega, by omega⟩, inB_iff.1 b, inB_iff.1 c, h2⟩
theorem valid_slot {T : Tab} (h : validB T = true) {i : Nat} (hi : i < T.zs.length) : -2 ≤ nth T.zs i ∧ nth T.zs i ≤ 99 := inB_iff.1 ((valid_facts h).2.2.2 i hi).1

theorem homeI_bounds {T : Tab} (h : validB T = true) (key : Int) : 0 ≤ homeI T key ∧ homeI T key < T.zs.length := by
  have h1 := (valid_facts h).1
  exact ⟨Int.emod_nonneg _ (by omega), Int.emod_lt_of_pos _ (by omega)⟩

theorem tmod_bounds (x : Int) {n : Int} (hn : 0 < n) : -n < x.tmod n ∧ x.tmod n < n := by
  have h2 := Int.tmod_lt_of_pos x hn
  refine ⟨?_, h2⟩
  have h3 := Int.tmod_lt_of_pos (-x) hn
  rw [Int.neg_tmod] at h3
  omega
theorem wrap_mod (x n : Int) : (x.tmod n + n) % n = x % n := by
  have h : n * x.tdiv n + x.tmod n = x := Int.mul_tdiv_add_tmod x n
  have e : x % n = (x.tmod n + n * x.tdiv n) % n := by rw [Int.add_comm (x.tmod n), h]
  rw [Int.add_emod_right, e, Int.add_mul_emod_self_left]

/-- HomeOf of the document. -/
def homeOf (T : Tab) (key : Int) : Int := if validB T && inB key 0 99 then homeI T key else -1
theorem homeOf_no {T : Tab} {key : Int} (h : validB T = false ∨ inB key 0 99 = false) : -1 = homeOf T key := by
  unfold homeOf
  rcases h with h | h <;> simp [h]
theorem homeOf_yes {T : Tab} {key : Int} (h : validB T = true) (hk : inB key 0 99 = true) : homeI T key = homeOf T key := by simp [homeOf, h, hk]

end Go.Proofs.Ytpncpeokdcolpaa

namespace Go.Proofs.Ytpncpeokdcolpaa

/-- AwayOf of the document. -/
def awayOf (T : Tab) (slot : Int) : Int :=
  if validB T && inB slot 0 (T.zs.length - 1) && decide (0 ≤ nth T.zs slot.toNat) then (slot - homeI T (nth T.zs slot.toNat)) % T.zs.length else -1
theorem awayOf_no {T : Tab} {slot : Int} (h : validB T = false ∨ inB slot 0 (T.zs.length - 1) = false ∨ nth T.zs slot.toNat < 0) : -1 = awayOf T slot := by
  unfold awayOf
  rcases h with h | h | h
  · simp [h]
  · simp [h]
  · simp only [show ¬ 0 ≤ nth T.zs slot.toNat by omega, decide_false, Bool.and_false]; rfl
theorem awayOf_yes {T : Tab} {k : Nat} {x : Int} (h : validB T = true) (hk : k < T.zs.length) (hx : nth T.zs k = x) (h0 : 0 ≤ x) : ((k : Int) - homeI T x) % T.zs.length = awayOf T k := by
  have h1 : inB (k : Int) 0 (T.zs.length - 1) = true := inB_true (by omega)
  subst hx
  unfold awayOf
  rw [if_pos (by simp only [h, h1, Int.toNat_natCast, Bool.true_and, decide_eq_true_eq]; exact h0), Int.toNat_natCast]

/-- How many of the first k slots are so. -/
def cnt (p : Int → Bool) (zs : List Int) (k : Nat) : Nat := (zs.take k).countP p
theorem cnt_zero (p : Int → Bool) (zs : List Int) : cnt p zs 0 = 0 := by simp [cnt]
theorem cnt_succ {p : Int → Bool} {zs : List Int} {k : Nat} {x : Int} (hk : k < zs.length) (hx : nth zs k = x) : cnt p zs (k + 1) = cnt p zs k + (if p x then 1 else 0) := by
  have h : zs[k] = x := by simpa [nth, List.getElem?_eq_getElem hk] using hx
  rw [cnt, List.take_succ_eq_append_getElem hk, List.countP_append, h]
  simp [cnt, List.countP_cons]
theorem cnt_le (p : Int → Bool) (zs : List Int) (k : Nat) : cnt p zs k ≤ zs.length := Nat.le_trans List.countP_le_length (by simp; omega)
def keyP (x : Int) : Bool := !(x == -1) && !(x == -2)
def tombP (x : Int) : Bool := x == -2
def freeP (x : Int) : Bool := x == -1
/-- CountSlots of the document. -/
def countK (T : Tab) : Int := if validB T then cnt keyP T.zs T.zs.length else -1
def countT (T : Tab) : Int := if validB T then cnt tombP T.zs T.zs.length else -1
def countF (T : Tab) : Int := if validB T then cnt freeP T.zs T.zs.length else -1

/-- The keys below j that a list has, in order. -/
def sortTo (zs : List Int) (j : Nat) : List Int := ((List.range j).filter (fun k : Nat => decide (0 ≤ fnd zs k))).map (fun k : Nat => (k : Int))
/-- The keys of a list, in order, each once. -/
def sortU (zs : List Int) : List Int := sortTo zs 100
theorem sortTo_zero (zs : List Int) : sortTo zs 0 = [] := rfl
theorem sortTo_yes {zs : List Int} {j : Nat} (h : 0 ≤ fnd zs j) : sortTo zs (j + 1) = sortTo zs j ++ [(j : Int)] := by
  simp [sortTo, List.range_succ, List.filter_append, h]
theorem sortTo_no {zs : List Int} {j : Nat} (h : fnd zs j < 0) : sortTo zs (j + 1) = sortTo zs j := by
  have : ¬ 0 ≤ fnd zs j := by omega
  simp [sortTo, List.range_succ, List.filter_append, this]
theorem sortTo_len (zs : List Int) (j : Nat) : (sortTo zs j).length ≤ j := by
  simp only [sortTo, List.length_map]
  exact Nat.le_trans (List.length_filter_le _ _) (by simp)
theorem mem_sortTo {zs : List Int} {j : Nat} {x : Int} : x ∈ sortTo zs j ↔ ∃ k : Nat, k < j ∧ x = k ∧ 0 ≤ fnd zs k := by
  simp only [sortTo, List.mem_map, List.mem_filter, List.mem_range, decide_eq_true_eq]
  constructor
  · rintro ⟨k, ⟨h1, h2⟩, rfl⟩; exact ⟨k, h1, rfl, h2⟩
  · rintro ⟨k, h1, rfl, h2⟩; exact ⟨k, ⟨h1, h2⟩, rfl⟩

end Go.Proofs.Ytpncpeokdcolpaa

namespace Go.Proofs.Ytpncpeokdcolpaa

/-- Back along a ring. -/
theorem wsub {a b n : Int} (a0 : 0 ≤ a) (a1 : a < n) (b0 : 0 ≤ b) (b1 : b < n) : (a - b) % n = if b ≤ a then a - b else a - b + n := by
  split
  · exact Int.emod_eq_of_lt (by omega) (by omega)
  · rw [← Int.add_emod_right]
    exact Int.emod_eq_of_lt (by omega) (by omega)
/-- On along a ring. -/
theorem wadd {a b n : Int} (a0 : 0 ≤ a) (a1 : a < n) (b0 : 0 ≤ b) (b1 : b < n) : (a + b) % n = if a + b < n then a + b else a + b - n := by
  split
  · exact Int.emod_eq_of_lt (by omega) (by omega)
  · rw [← Int.sub_emod_right]
    exact Int.emod_eq_of_lt (by omega) (by omega)
theorem nadd {a b n : Nat} (a1 : a < n) (b1 : b ≤ n) : (a + b) % n = if a + b < n then a + b else a + b - n := by
  split
  · exact Nat.mod_eq_of_lt (by omega)
  · rw [Nat.mod_eq_sub_mod (by omega)]
    exact Nat.mod_eq_of_lt (by omega)

theorem Good.inj {zs : List Int} {n i j : Nat} (h : Good zs n) (hi : i < n) (hj : j < n) (e : nth zs i = nth zs j) (h0 : 0 ≤ nth zs i) : i = j := by
  rcases Nat.lt_trichotomy i j with h1 | h1 | h1
  · exact absurd e ((h j hj).2 (by omega) i h1)
  · exact h1
  · exact absurd e.symm ((h i hi).2 h0 j h1)

def turnL (zs : List Int) : List Int := (List.range zs.length).map fun i => nth zs ((i + zs.length - 1) % zs.length)
/-- A table turned by a slot, whose Plus is one greater. -/
def turn (T : Tab) : Tab := ⟨T.t, T.p + 1, turnL T.zs⟩
theorem turnL_len (zs : List Int) : (turnL zs).length = zs.length := by simp [turnL]
theorem turn_len (T : Tab) : (turn T).zs.length = T.zs.length := turnL_len _
theorem turnL_nth {zs : List Int} {i : Nat} (hi : i < zs.length) : nth (turnL zs) i = nth zs ((i + zs.length - 1) % zs.length) := by
  simp [nth, turnL, hi]
theorem turn_back {i n : Nat} (hi : i < n) : ((i + 1) % n + n - 1) % n = i := by
  have h1 := nadd (b := 1) hi (by omega)
  rw [h1]
  split
  · rw [show i + 1 + n - 1 = i + n by omega, Nat.add_mod_right, Nat.mod_eq_of_lt hi]
  · rw [show i + 1 - n + n - 1 = i by omega, Nat.mod_eq_of_lt hi]
theorem turn_on {i n : Nat} (hi : i < n) : ((i + n - 1) % n + 1) % n = i := by
  by_cases h : i = 0
  · subst h
    rw [show 0 + n - 1 = n - 1 by omega, Nat.mod_eq_of_lt (show n - 1 < n by omega), show n - 1 + 1 = n by omega, Nat.mod_self]
  · rw [show i + n - 1 = (i - 1) + n by omega, Nat.add_mod_right, Nat.mod_eq_of_lt (show i - 1 < n by omega), show i - 1 + 1 = i by omega, Nat.mod_eq_of_lt hi]
theorem turnL_succ {zs : List Int} {i : Nat} (hi : i < zs.length) : nth (turnL zs) ((i + 1) % zs.length) = nth zs i := by
  rw [turnL_nth (Nat.mod_lt _ (by omega)), turn_back hi]

theorem turn_valid {T : Tab} (h : validB T = true) (hp : T.p < 15) : validB (turn T) = true := by
  obtain ⟨⟨l1, l2⟩, ⟨t1, t2⟩, ⟨p1, p2⟩, hg⟩ := valid_facts h
  rw [validB_iff]
  refine ⟨?_, fun i hi => ?_⟩
  · show headB _ T.t (T.p + 1) = true
    rw [turn_len]
    simp only [headB, inB, Bool.and_eq_true, decide_eq_true_eq]
    omega
  · rw [turn_len] at hi
    have e : nth (turn T).zs i = _ := turnL_nth hi
    have m1 : (i + T.zs.length - 1) % T.zs.length < T.zs.length := Nat.mod_lt _ (by omega)
    rw [e]
    refine ⟨(hg _ m1).1, fun h0 j hj e2 => ?_⟩
    have e3 : nth (turn T).zs j = _ := turnL_nth (show j < T.zs.length by omega)
    rw [e3] at e2
    have := hg.inj (Nat.mod_lt _ (by omega)) m1 e2 (by rw [e2]; exact h0)
    have h1 := turn_on hi
    have h2 := turn_on (show j < T.zs.length by omega)
    rw [this] at h2
    omega

theorem turn_home (T : Tab) (key : Int) : homeI (turn T) key = (homeI T key + 1) % T.zs.length := by
  unfold homeI
  rw [turn_len, Int.emod_add_emod]
  show (T.t * key + (T.p + 1)) % _ = _
  rw [← Int.add_assoc]

theorem turn_homeOf {T : Tab} {key : Int} (h : validB T = true) (hp : T.p < 15) (hk : inB key 0 99 = true) : homeOf (turn T) key = (homeOf T key + 1) % T.zs.length := by
  rw [← homeOf_yes h hk, ← homeOf_yes (turn_valid h hp) hk, turn_home]

theorem ring_turn (a b n : Int) : ((a + 1) % n - (b + 1) % n) % n = (a - b) % n := by
  rw [← Int.sub_emod, show a + 1 - (b + 1) = a - b by omega]

theorem turn_away {T : Tab} (h : validB T = true) (hp : T.p < 15) {i : Nat} (hi : i < T.zs.length) : awayOf (turn T) (((i + 1) % T.zs.length : Nat) : Int) = awayOf T i := by
  have hn := turn_len T
  have m : (i + 1) % T.zs.length < T.zs.length := Nat.mod_lt _ (by omega)
  have e : nth (turn T).zs ((i + 1) % T.zs.length) = nth T.zs i := turnL_succ hi
  by_cases h0 : 0 ≤ nth T.zs i
  · rw [← awayOf_yes h hi rfl h0, ← awayOf_yes (turn_valid h hp) (by omega) e h0, turn_home, hn]
    have := ring_turn i (homeI T (nth T.zs i)) T.zs.length
    rw [← this]
    congr 2
  · rw [← awayOf_no (T := T) (slot := (i : Int)) (.inr (.inr (by rw [Int.toNat_natCast]; omega))), ← awayOf_no (T := turn T) (slot := (((i + 1) % T.zs.length : Nat) : Int)) (.inr (.inr (by rw [Int.toNat_natCast, e]; omega)))]

/-- What is known of a key's home. -/
theorem homeOf_cases (T : Tab) (key : Int) : (homeOf T key = -1 ∧ (validB T = false ∨ inB key 0 99 = false)) ∨ (homeOf T key = homeI T key ∧ validB T = true ∧ (0 ≤ key ∧ key ≤ 99) ∧ 0 ≤ homeI T key ∧ homeI T key < T.zs.length) := by
  cases hv : validB T
  · exact .inl ⟨(homeOf_no (.inl hv)).symm, .inl rfl⟩
  · cases hk : inB key 0 99
    · exact .inl ⟨(homeOf_no (.inr hk)).symm, .inr rfl⟩
    · exact .inr ⟨(homeOf_yes hv hk).symm, rfl, inB_iff.1 hk, homeI_bounds hv key⟩

theorem home_rest (T : Tab) (key : Int) : (T.t * key + T.p - homeI T key) % T.zs.length = 0 := by
  unfold homeI
  rw [← Int.emod_eq_emod_iff_emod_sub_eq_zero]
  simp

theorem home_apart (T : Tab) (key : Int) : (T.zs.length : Int) ∣ (homeI T (key + 1) - homeI T key - T.t) := by
  unfold homeI
  apply Int.dvd_of_emod_eq_zero
  rw [Int.sub_emod, ← Int.sub_emod (T.t * (key + 1) + T.p) (T.t * key + T.p), ← Int.sub_emod]
  have : T.t * (key + 1) + T.p - (T.t * key + T.p) - T.t = 0 := by rw [Int.mul_add]; omega
  rw [this]; simp
theorem home_apart_t (T : Tab) (key : Int) : (homeI T (key + 1) - homeI T key - T.t).tmod T.zs.length = 0 := Int.tmod_eq_zero_of_dvd (home_apart T key)
theorem home_far (T : Tab) (key : Int) : homeI T (key + T.zs.length) = homeI T key := by
  unfold homeI
  rw [Int.mul_add, show T.t * key + T.t * T.zs.length + T.p = T.t * key + T.p + T.t * T.zs.length by omega, Int.add_mul_emod_self_right]

theorem away_back {a b n : Int} (a0 : 0 ≤ a) (a1 : a < n) : (b + (a - b) % n) % n = a := by
  rw [Int.add_emod_emod, show b + (a - b) = a by omega, Int.emod_eq_of_lt a0 a1]

/-- What is known of how far a slot lies from home. -/
theorem awayOf_cases (T : Tab) (slot : Int) : awayOf T slot = -1 ∨ ∃ (k : Nat) (x : Int), slot = k ∧ k < T.zs.length ∧ nth T.zs k = x ∧ 0 ≤ x ∧ x ≤ 99 ∧ validB T = true ∧ awayOf T slot = (k - homeI T x) % T.zs.length ∧ 0 ≤ awayOf T slot ∧ awayOf T slot < T.zs.length := by
  cases hv : validB T
  · exact .inl (awayOf_no (.inl hv)).symm
  · cases hs : inB slot 0 (T.zs.length - 1)
    · exact .inl (awayOf_no (.inr (.inl hs))).symm
    · obtain ⟨s0, s1⟩ := inB_iff.1 hs
      obtain ⟨k, rfl⟩ : ∃ k : Nat, slot = k := ⟨slot.toNat, by omega⟩
      by_cases h0 : 0 ≤ nth T.zs k
      · have hk : k < T.zs.length := by omega
        have hb := valid_slot hv hk
        have e := awayOf_yes hv hk rfl h0
        refine .inr ⟨k, _, rfl, hk, rfl, h0, hb.2, rfl, e.symm, ?_, ?_⟩
        · rw [← e]; exact Int.emod_nonneg _ (by omega)
        · rw [← e]; exact Int.emod_lt_of_pos _ (by omega)
      · exact .inl (awayOf_no (.inr (.inr (by simpa using h0)))).symm

end Go.Proofs.Ytpncpeokdcolpaa

namespace Go.Proofs.Ytpncpeokdcolpaa

theorem good_nodup {zs : List Int} (h : Good zs zs.length) : (zs.filter fun x => inB x 0 99).Nodup := by
  rw [List.nodup_iff_pairwise_ne, List.pairwise_filter]
  rw [List.pairwise_iff_getElem]
  intro i j hi hj hij h1 h2 e
  have hi' : nth zs i = zs[i] := by simp [nth, List.getElem?_eq_getElem hi]
  have hj' : nth zs j = zs[j] := by simp [nth, List.getElem?_eq_getElem hj]
  have h3 := (inB_iff.1 h1).1
  have := h.inj hi hj (by rw [hi', hj', e]) (by rw [hi']; exact h3)
  omega

theorem sortU_pairwise (zs : List Int) : (sortU zs).Pairwise (· < ·) := by
  unfold sortU sortTo
  rw [List.pairwise_map]
  refine List.Pairwise.filter _ ?_
  refine List.pairwise_lt_range.imp ?_
  intro a b h
  omega

theorem sortU_mem {zs : List Int} {x : Int} : x ∈ sortU zs ↔ (0 ≤ x ∧ x ≤ 99) ∧ x ∈ zs := by
  unfold sortU
  rw [mem_sortTo]
  constructor
  · rintro ⟨k, hk, rfl, h⟩
    rcases fnd_cases zs (k : Int) with ⟨h1, _⟩ | ⟨j, hj, _, h2, _⟩
    · omega
    · refine ⟨by omega, ?_⟩
      rw [← h2, nth, List.getElem?_eq_getElem hj]
      exact List.getElem_mem hj
  · rintro ⟨⟨h0, h1⟩, h⟩
    obtain ⟨k, rfl⟩ : ∃ k : Nat, x = k := ⟨x.toNat, by omega⟩
    refine ⟨k, by omega, rfl, ?_⟩
    rcases fnd_cases zs (k : Int) with ⟨_, h2⟩ | ⟨j, hj, e, _⟩
    · obtain ⟨i, hi, e⟩ := List.getElem_of_mem h
      exact absurd (by rw [nth, List.getElem?_eq_getElem hi]; simpa using e) (h2 i hi)
    · omega

theorem sort_keys {zs : List Int} (h : Good zs zs.length) : ((zs.filter fun x => inB x 0 99).mergeSort fun x y => decide (x ≤ y)) = sortU zs := by
  have hp := List.mergeSort_perm (zs.filter fun x => inB x 0 99) (fun x y => decide (x ≤ y))
  have hs := List.pairwise_mergeSort (le := fun x y : Int => decide (x ≤ y)) (fun a b c h1 h2 => by simp at *; omega) (fun a b => by simp; omega) (zs.filter fun x => inB x 0 99)
  have hu := sortU_pairwise zs
  have hperm : (zs.filter fun x => inB x 0 99).Perm (sortU zs) := by
    rw [List.perm_ext_iff_of_nodup (good_nodup h) (hu.imp fun h => by omega)]
    intro x
    rw [List.mem_filter, sortU_mem, inB_iff]
    exact And.comm
  refine List.Perm.eq_of_pairwise (le := fun x y : Int => decide (x ≤ y) = true) (fun a b _ _ h1 h2 => ?_) hs (hu.imp fun h => ?_) (hp.trans hperm)
  · simp at h1 h2; omega
  · simp; omega

end Go.Proofs.Ytpncpeokdcolpaa

namespace Go.Proofs.Ytpncpeokdcolpaa

/-- The slot to which one comes by i steps from h on. -/
def stepS (T : Tab) (h i : Nat) : Nat := (h + i) % T.zs.length
theorem stepS_lt {T : Tab} (hn : 1 ≤ T.zs.length) (h i : Nat) : stepS T h i < T.zs.length := Nat.mod_lt _ (by omega)

/-- A slot at which one stops who looks for a key. -/
def stopAt (T : Tab) (key : Int) (h i : Nat) : Bool := nth T.zs (stepS T h i) == -1 || nth T.zs (stepS T h i) == key

/-- How many of the first n steps are taken without a stop. -/
def goN (p : Nat → Bool) (n : Nat) : Nat := (List.range n).findIdx p
theorem goN_le (p : Nat → Bool) (n : Nat) : goN p n ≤ n := by
  have := List.findIdx_le_length (p := p) (xs := List.range n)
  simpa [goN] using this
theorem goN_free {p : Nat → Bool} {n j : Nat} (hj : j < goN p n) : p j = false := by
  have h1 := goN_le p n
  have h2 := List.not_of_lt_findIdx (p := p) (xs := List.range n) (i := j) hj
  simpa using h2
theorem goN_stop {p : Nat → Bool} {n : Nat} (h : goN p n < n) : p (goN p n) = true := by
  have h2 := List.findIdx_getElem (p := p) (xs := List.range n) (w := by simpa [goN] using h)
  simpa [goN] using h2
theorem goN_eq {p : Nat → Bool} {n i : Nat} (hi : i < n) (h : ∀ j, j < i → p j = false) (hp : p i = true) : goN p n = i := by
  have h1 := goN_le p n
  rcases Nat.lt_trichotomy (goN p n) i with h2 | h2 | h2
  · have := goN_stop (p := p) (n := n) (by omega)
    rw [h _ h2] at this
    cases this
  · exact h2
  · have := goN_free (p := p) (n := n) h2
    rw [hp] at this
    cases this
theorem goN_all {p : Nat → Bool} {n : Nat} (h : ∀ j, j < n → p j = false) : goN p n = n := by
  have h1 := goN_le p n
  by_cases h2 : goN p n < n
  · have := goN_stop h2
    rw [h _ h2] at this
    cases this
  · omega

/-- How many slots are visited to find a key: the last one included. -/
def visN (T : Tab) (key : Int) (h : Nat) : Nat := min (goN (stopAt T key h) T.zs.length + 1) T.zs.length
theorem visN_stop {T : Tab} {key : Int} {h i : Nat} (hi : i < T.zs.length) (hf : ∀ j, j < i → stopAt T key h j = false) (hp : stopAt T key h i = true) : visN T key h = i + 1 := by
  unfold visN
  rw [goN_eq hi hf hp]
  omega
theorem visN_all {T : Tab} {key : Int} {h : Nat} (hf : ∀ j, j < T.zs.length → stopAt T key h j = false) : visN T key h = T.zs.length := by
  unfold visN
  rw [goN_all hf]
  omega
theorem visN_bounds {T : Tab} (hn : 1 ≤ T.zs.length) (key : Int) (h : Nat) : 1 ≤ visN T key h ∧ visN T key h ≤ T.zs.length := by
  unfold visN
  omega

/-- The slots of the first k steps. -/
def wayTo (T : Tab) (h k : Nat) : List Int := (List.range k).map fun i => (stepS T h i : Int)
theorem wayTo_succ (T : Tab) (h k : Nat) : wayTo T h (k + 1) = wayTo T h k ++ [(stepS T h k : Int)] := by
  simp [wayTo, List.range_succ]
theorem wayTo_len (T : Tab) (h k : Nat) : (wayTo T h k).length = k := by simp [wayTo]
theorem wayTo_nth {T : Tab} {h k i : Nat} (hi : i < k) : nth (wayTo T h k) i = stepS T h i := by
  simp [nth, wayTo, hi]

def homeN (T : Tab) (key : Int) : Nat := (homeI T key).toNat
theorem homeN_eq {T : Tab} (h : validB T = true) (key : Int) : (homeN T key : Int) = homeI T key := by
  have := homeI_bounds h key
  unfold homeN
  omega
theorem homeN_lt {T : Tab} (h : validB T = true) (key : Int) : homeN T key < T.zs.length := by
  have := homeI_bounds h key
  unfold homeN
  omega

/-- The slots that are visited for a key. -/
def wayOf (T : Tab) (key : Int) : List Int := wayTo T (homeN T key) (visN T key (homeN T key))
/-- The last slot that is visited for a key. -/
def lastOf (T : Tab) (key : Int) : Nat := stepS T (homeN T key) (visN T key (homeN T key) - 1)
/-- The slot where a key is found, or -1. -/
def findI (T : Tab) (key : Int) : Int := if nth T.zs (lastOf T key) = key then lastOf T key else -1

/-- FindKey, VisitsFor, LostKeys, IsSound, PlaceFor of the document. -/
def findOf (T : Tab) (key : Int) : Int := if validB T && inB key 0 99 then findI T key else -1
def visOf (T : Tab) (key : Int) : Int := if validB T && inB key 0 99 then visN T key (homeN T key) else -1
def lostOf (T : Tab) : List Int := if validB T then (sortU T.zs).filter (fun k => decide (findI T k < 0)) else []
def soundB (T : Tab) : Bool := validB T && decide (lostOf T = [])
/-- The first slot of a way that is free or a tomb, or -1. -/
def firstLow (zs : List Int) (way : List Int) : Int := ((way.find? fun k => decide (nth zs k.toNat < 0)).getD (-1))
def placeI (T : Tab) (key : Int) : Int := if validB T && inB key 0 99 && decide (findI T key < 0) then firstLow T.zs (wayOf T key) else -1

theorem lastOf_lt {T : Tab} (hn : 1 ≤ T.zs.length) (key : Int) : lastOf T key < T.zs.length := stepS_lt hn _ _
theorem findI_bounds {T : Tab} (hn : 1 ≤ T.zs.length) (key : Int) : -1 ≤ findI T key ∧ findI T key < T.zs.length := by
  have := lastOf_lt hn key
  unfold findI
  split <;> omega

end Go.Proofs.Ytpncpeokdcolpaa

namespace Go.Proofs.Ytpncpeokdcolpaa

theorem vis_free {T : Tab} {key : Int} {h i : Nat} (hi : i < visN T key h - 1) : stopAt T key h i = false :=
  goN_free (n := T.zs.length) (by unfold visN at hi; omega)
theorem stop_no {T : Tab} {key : Int} {h i : Nat} (hs : stopAt T key h i = false) : nth T.zs (stepS T h i) ≠ -1 ∧ nth T.zs (stepS T h i) ≠ key := by
  simpa [stopAt] using hs
theorem stop_is {T : Tab} {key : Int} {h i : Nat} (h1 : nth T.zs (stepS T h i) ≠ -1) (h2 : nth T.zs (stepS T h i) ≠ key) : stopAt T key h i = false := by
  simp [stopAt, h1, h2]
theorem stop_key {T : Tab} {key : Int} {h i : Nat} (h1 : nth T.zs (stepS T h i) = key) : stopAt T key h i = true := by
  simp [stopAt, h1]
theorem stop_free {T : Tab} {key : Int} {h i : Nat} (h1 : nth T.zs (stepS T h i) = -1) : stopAt T key h i = true := by
  simp [stopAt, h1]
theorem find_yes {T : Tab} {key : Int} (h : 0 ≤ findI T key) : findI T key = lastOf T key ∧ nth T.zs (lastOf T key) = key := by
  unfold findI at h ⊢
  split at h
  · rename_i h1
    exact ⟨if_pos h1, h1⟩
  · omega
theorem find_no {T : Tab} {key : Int} (h : findI T key < 0) : findI T key = -1 ∧ nth T.zs (lastOf T key) ≠ key := by
  unfold findI at h ⊢
  split at h
  · omega
  · rename_i h1
    exact ⟨if_neg h1, h1⟩
/-- A slot as a number of steps from another one. -/
theorem step_away {T : Tab} {h k : Nat} (hh : h < T.zs.length) (hk : k < T.zs.length) : stepS T h ((k + T.zs.length - h) % T.zs.length) = k ∧ (k + T.zs.length - h) % T.zs.length < T.zs.length := by
  refine ⟨?_, Nat.mod_lt _ (by omega)⟩
  rw [stepS, Nat.add_mod_mod, show h + (k + T.zs.length - h) = k + T.zs.length by omega, Nat.add_mod_right, Nat.mod_eq_of_lt hk]
theorem step_inj {T : Tab} {h i j : Nat} (hh : h < T.zs.length) (hi : i < T.zs.length) (hj : j < T.zs.length) (e : stepS T h i = stepS T h j) : i = j := by
  unfold stepS at e
  rw [nadd hh (by omega), nadd hh (by omega)] at e
  split at e <;> split at e <;> omega
/-- The steps from the home of a key to where it is. -/
theorem away_step {T : Tab} (hv : validB T = true) {j : Nat} {x : Int} (hj : j < T.zs.length) (hx : nth T.zs (stepS T (homeN T x) j) = x) (h0 : 0 ≤ x) : awayOf T (stepS T (homeN T x) j : Nat) = j := by
  obtain ⟨⟨l1, _⟩, _⟩ := valid_facts hv
  have hh := homeN_lt hv x
  have e := homeN_eq hv x
  rw [← awayOf_yes hv (stepS_lt l1 _ _) hx h0, ← e]
  have hl := stepS_lt (T := T) l1 (homeN T x) j
  rw [wsub (by omega) (by omega) (by omega) (by omega)]
  unfold stepS at hl ⊢
  rw [nadd hh (by omega)]
  split <;> split <;> omega

theorem last_away {T : Tab} {key : Int} (hv : validB T = true) (h0 : 0 ≤ key) (hf : nth T.zs (lastOf T key) = key) : awayOf T (lastOf T key : Nat) = (visN T key (homeN T key) : Int) - 1 := by
  obtain ⟨⟨l1, _⟩, _⟩ := valid_facts hv
  have hb := visN_bounds l1 key (homeN T key)
  have := away_step hv (j := visN T key (homeN T key) - 1) (by omega) hf h0
  unfold lastOf
  rw [this]
  omega
theorem last_free {T : Tab} {key : Int} (hf : nth T.zs (lastOf T key) ≠ key) : nth T.zs (lastOf T key) = -1 ∨ visN T key (homeN T key) = T.zs.length := by
  by_cases h : goN (stopAt T key (homeN T key)) T.zs.length < T.zs.length
  · left
    have h1 := goN_stop h
    have h2 : visN T key (homeN T key) - 1 = goN (stopAt T key (homeN T key)) T.zs.length := by unfold visN; omega
    unfold lastOf at hf ⊢
    rw [h2] at hf ⊢
    simp only [stopAt, Bool.or_eq_true, beq_iff_eq] at h1
    rcases h1 with h1 | h1
    · exact h1
    · exact absurd h1 hf
  · right
    have h1 := goN_le (stopAt T key (homeN T key)) T.zs.length
    unfold visN
    omega
theorem last_cast {T : Tab} (hv : validB T = true) (key : Int) : (homeI T key + (visN T key (homeN T key) : Int) - 1) % (T.zs.length : Int) = (lastOf T key : Int) := by
  obtain ⟨⟨l1, _⟩, _⟩ := valid_facts hv
  have hb := visN_bounds l1 key (homeN T key)
  rw [← homeN_eq hv key, lastOf, stepS, Int.natCast_emod]
  congr 1
  omega

/-- Where a key is found: the steps to it. -/
theorem find_at {T : Tab} {key : Int} {j : Nat} (hj : j < T.zs.length) (hf : ∀ i, i < j → stopAt T key (homeN T key) i = false) (hx : nth T.zs (stepS T (homeN T key) j) = key) (_h0 : 0 ≤ key) :
    visN T key (homeN T key) = j + 1 ∧ lastOf T key = stepS T (homeN T key) j ∧ findI T key = stepS T (homeN T key) j := by
  have h1 := visN_stop hj hf (stop_key hx)
  have h2 : lastOf T key = stepS T (homeN T key) j := by rw [lastOf, h1]; rfl
  refine ⟨h1, h2, ?_⟩
  unfold findI
  rw [h2, if_pos hx]
/-- A key that lies in a table behind no free slot is found. -/
theorem found_iff {T : Tab} {key : Int} (hv : validB T = true) {j : Nat} (hj : j < T.zs.length) (hx : nth T.zs (stepS T (homeN T key) j) = key) (h0 : 0 ≤ key) :
    0 ≤ findI T key ↔ ∀ i, i < j → nth T.zs (stepS T (homeN T key) i) ≠ -1 := by
  obtain ⟨⟨l1, _⟩, _, _, hg⟩ := valid_facts hv
  have hh := homeN_lt hv key
  have hne : ∀ i, i < j → nth T.zs (stepS T (homeN T key) i) ≠ key := fun i hi e => by
    have := hg.inj (stepS_lt l1 _ _) (stepS_lt l1 _ _) (e.trans hx.symm) (by rw [e]; exact h0)
    have := step_inj hh (by omega) hj this
    omega
  constructor
  · intro hf i hi e
    obtain ⟨_, h2⟩ := find_yes hf
    have hb := visN_bounds l1 key (homeN T key)
    have h3 : visN T key (homeN T key) - 1 = j := by
      refine step_inj hh (by omega) hj (hg.inj (stepS_lt l1 _ _) (stepS_lt l1 _ _) ?_ ?_)
      · rw [hx]; exact h2
      · exact (show (0 : Int) ≤ nth T.zs (lastOf T key) by rw [h2]; exact h0)
    exact (stop_no (vis_free (T := T) (key := key) (h := homeN T key) (i := i) (by omega))).1 e
  · intro hf
    obtain ⟨_, _, h3⟩ := find_at hj (fun i hi => stop_is (hf i hi) (hne i hi)) hx h0
    omega

theorem low_get {zs way : List Int} (h : 0 ≤ firstLow zs way) : ∃ j, j < way.length ∧ firstLow zs way = nth way j ∧ nth zs (nth way j).toNat < 0 ∧ ∀ i, i < j → 0 ≤ nth zs (nth way i).toNat := by
  induction way with
  | nil => simp [firstLow] at h
  | cons x way ih =>
    by_cases hx : nth zs x.toNat < 0
    · refine ⟨0, by simp, ?_, by simpa [nth] using hx, fun i hi => by omega⟩
      unfold firstLow
      rw [List.find?_cons_of_pos (by simpa using hx)]
      simp [nth]
    · have e : firstLow zs (x :: way) = firstLow zs way := by
        unfold firstLow
        rw [List.find?_cons_of_neg (by simpa using hx)]
      rw [e] at h ⊢
      obtain ⟨j, h1, h2, h3, h4⟩ := ih h
      refine ⟨j + 1, by simpa using h1, by simpa [nth] using h2, by simpa [nth] using h3, fun i hi => ?_⟩
      cases i with
      | zero => simpa [nth] using hx
      | succ i => simpa [nth] using h4 i (by omega)
theorem low_not {zs way : List Int} (h : firstLow zs way < 0) (hw : ∀ i, i < way.length → 0 ≤ nth way i) : ∀ i, i < way.length → 0 ≤ nth zs (nth way i).toNat := by
  induction way with
  | nil => intro i hi; simp at hi
  | cons x way ih =>
    by_cases hx : nth zs x.toNat < 0
    · have h0 := hw 0 (by simp)
      unfold firstLow at h
      rw [List.find?_cons_of_pos (by simpa using hx)] at h
      simp [nth] at h h0
      omega
    · have e : firstLow zs (x :: way) = firstLow zs way := by
        unfold firstLow
        rw [List.find?_cons_of_neg (by simpa using hx)]
      rw [e] at h
      intro i hi
      cases i with
      | zero => simpa [nth] using hx
      | succ i => simpa [nth] using ih h (fun k hk => by simpa [nth] using hw (k + 1) (by simp; omega)) i (by simpa using hi)

theorem place_asked {T : Tab} {key : Int} (h : 0 ≤ placeI T key) : validB T = true ∧ (0 ≤ key ∧ key ≤ 99) ∧ findI T key < 0 ∧ placeI T key = firstLow T.zs (wayOf T key) := by
  unfold placeI at h ⊢
  split at h
  · rename_i h1
    rw [if_pos h1]
    simp only [Bool.and_eq_true, decide_eq_true_eq] at h1
    exact ⟨h1.1.1, inB_iff.1 h1.1.2, h1.2, rfl⟩
  · omega
/-- A place for a key: the first slot on its way that holds none. -/
theorem place_yes {T : Tab} {key : Int} (h : 0 ≤ placeI T key) : ∃ j, j < visN T key (homeN T key) ∧ placeI T key = stepS T (homeN T key) j ∧ nth T.zs (stepS T (homeN T key) j) < 0 ∧ ∀ i, i < j → 0 ≤ nth T.zs (stepS T (homeN T key) i) := by
  obtain ⟨_, _, _, e⟩ := place_asked h
  rw [e] at h
  obtain ⟨j, h1, h2, h3, h4⟩ := low_get h
  rw [wayOf, wayTo_len] at h1
  rw [wayOf, wayTo_nth h1] at h2 h3
  refine ⟨j, h1, by rw [e]; exact h2, by simpa using h3, fun i hi => ?_⟩
  have := h4 i hi
  rw [wayOf, wayTo_nth (by omega)] at this
  simpa using this
theorem placeI_low {T : Tab} {key : Int} (h : placeI T key < 0) : placeI T key = -1 := by
  unfold placeI at h ⊢
  split
  · rename_i h1
    rw [if_pos h1] at h
    unfold firstLow at h ⊢
    cases hc : List.find? (fun k => decide (nth T.zs k.toNat < 0)) (wayOf T key) with
    | none => rfl
    | some v =>
      rw [hc] at h
      obtain ⟨i, hi, e⟩ := List.getElem_of_mem (List.mem_of_find?_eq_some hc)
      rw [wayOf, wayTo_len] at hi
      have := wayTo_nth (T := T) (h := homeN T key) hi
      rw [nth] at this
      have e2 : (wayOf T key)[i]? = some v := by rw [List.getElem?_eq_getElem (by rw [wayOf, wayTo_len]; exact hi), e]
      rw [wayOf] at e2
      rw [e2] at this
      simp at this h
      omega
  · rfl
/-- No place for a key that is not there: no slot is free or a tomb. -/
theorem place_no {T : Tab} {key : Int} (hv : validB T = true) (hk : 0 ≤ key ∧ key ≤ 99) (hf : findI T key < 0) (h : placeI T key < 0) : ∀ i, i < T.zs.length → 0 ≤ nth T.zs i := by
  have e : placeI T key = firstLow T.zs (wayOf T key) := by
    unfold placeI
    rw [if_pos (by simp [hv, inB, hk, hf])]
  rw [e] at h
  have hh := homeN_lt hv key
  have h1 := low_not h (fun i hi => by
    rw [wayOf, wayTo_len] at hi
    rw [wayOf, wayTo_nth hi]; omega)
  have h2 : ∀ i, i < visN T key (homeN T key) → 0 ≤ nth T.zs (stepS T (homeN T key) i) := fun i hi => by
    have := h1 i (by rw [wayOf, wayTo_len]; exact hi)
    rw [wayOf, wayTo_nth hi] at this
    simpa using this
  obtain ⟨⟨l1, _⟩, _⟩ := valid_facts hv
  have hb := visN_bounds l1 key (homeN T key)
  have h3 : visN T key (homeN T key) = T.zs.length := by
    rcases last_free (find_no hf).2 with h3 | h3
    · have := h2 (visN T key (homeN T key) - 1) (by omega)
      unfold lastOf at h3
      omega
    · exact h3
  intro i hi
  obtain ⟨e1, e2⟩ := step_away hh hi
  have := h2 _ (by rw [h3]; exact e2)
  rwa [e1] at this

end Go.Proofs.Ytpncpeokdcolpaa

namespace Go.Proofs.Ytpncpeokdcolpaa

theorem nth_set {zs : List Int} {k : Nat} (hk : k < zs.length) (x : Int) (i : Nat) : nth (zs.set k x) i = if i = k then x else nth zs i := by
  unfold nth
  rw [List.getElem?_set]
  by_cases h : k = i
  · subst h; simp [hk]
  · simp [h, Ne.symm h]

/-- A table is sound if all its keys are found. -/
theorem sound_all {T : Tab} : soundB T = true ↔ validB T = true ∧ ∀ i, i < T.zs.length → 0 ≤ nth T.zs i → 0 ≤ findI T (nth T.zs i) := by
  unfold soundB
  cases hv : validB T
  · simp
  · simp only [Bool.true_and, decide_eq_true_eq, true_and]
    rw [lostOf, if_pos hv, List.filter_eq_nil_iff]
    constructor
    · intro h i hi h0
      have h1 := h (nth T.zs i) (sortU_mem.2 ⟨⟨h0, (valid_slot hv hi).2⟩, by rw [nth, List.getElem?_eq_getElem hi]; exact List.getElem_mem hi⟩)
      simpa using h1
    · intro h x hx
      obtain ⟨⟨h0, _⟩, hm⟩ := sortU_mem.1 hx
      obtain ⟨i, hi, e⟩ := List.getElem_of_mem hm
      have e2 : nth T.zs i = x := by rw [nth, List.getElem?_eq_getElem hi, e]; rfl
      have := h i hi (by rw [e2]; exact h0)
      rw [e2] at this
      simpa using this

/-- A table with a key in a slot. -/
def putAt (T : Tab) (k : Nat) (x : Int) : Tab := ⟨T.t, T.p, T.zs.set k x⟩
theorem putAt_len (T : Tab) (k : Nat) (x : Int) : (putAt T k x).zs.length = T.zs.length := by simp [putAt]
theorem putAt_home (T : Tab) (k : Nat) (x y : Int) : homeN (putAt T k x) y = homeN T y := by simp [homeN, homeI, putAt]
theorem putAt_step (T : Tab) (k : Nat) (x : Int) (h i : Nat) : stepS (putAt T k x) h i = stepS T h i := by simp [stepS, putAt]

def putOk (T : Tab) (key : Int) : Bool := decide (0 ≤ placeI T key) && soundB T
def putT (T : Tab) (key : Int) : Tab := if putOk T key then putAt T (placeI T key).toNat key else ⟨0, 0, []⟩
def putVis (T : Tab) (key : Int) : Int := if putOk T key then visOf T key else -1

theorem putOk_parts {T : Tab} {key : Int} (h : putOk T key = true) : 0 ≤ placeI T key ∧ soundB T = true := by simpa [putOk] using h
theorem putPlace_lt {T : Tab} {key : Int} (h : 0 ≤ placeI T key) : (placeI T key).toNat < T.zs.length := by
  obtain ⟨hv, _⟩ := place_asked h
  obtain ⟨⟨l1, _⟩, _⟩ := valid_facts hv
  obtain ⟨j, _, e, _⟩ := place_yes h
  have := stepS_lt (T := T) l1 (homeN T key) j
  rw [e]; omega

structure PutSays (T : Tab) (key : Int) (k : Nat) : Prop where
  val : validB T = true
  lt : k < T.zs.length
  low : nth T.zs k < 0
  key0 : 0 ≤ key ∧ key ≤ 99
  val2 : validB (putAt T k key) = true
  find2 : findI (putAt T k key) key = k
  vis2 : visN (putAt T k key) key (homeN T key) ≤ visN T key (homeN T key)
  sound2 : soundB (putAt T k key) = true

theorem put_says {T : Tab} {key : Int} (h : putOk T key = true) : PutSays T key (placeI T key).toNat := by
  obtain ⟨hp, hs⟩ := putOk_parts h
  have hlt := putPlace_lt hp
  obtain ⟨hv, hk, hf, _⟩ := place_asked hp
  obtain ⟨j, hj, e, h1, h2⟩ := place_yes hp
  obtain ⟨⟨l1, l2⟩, ht, hpp, hg⟩ := valid_facts hv
  have hb := visN_bounds l1 key (homeN T key)
  have ek : (placeI T key).toNat = stepS T (homeN T key) j := by rw [e]; rfl
  rw [ek] at hlt ⊢
  have hno : ∀ i, i < T.zs.length → nth T.zs i ≠ key := fun i hi e => by
    have := (sound_all.1 hs).2 i hi (by rw [e]; exact hk.1)
    rw [e] at this
    omega
  generalize hkk : stepS T (homeN T key) j = k at hlt h1 ek ⊢
  have hnth := nth_set hlt key
  have hv2 : validB (putAt T k key) = true := by
    refine validB_iff.2 ⟨by simpa [putAt] using (validB_iff.1 hv).1, ?_⟩
    rw [putAt_len]
    intro i hi
    show inB (nth (T.zs.set k key) i) (-2) 99 = true ∧ (0 ≤ nth (T.zs.set k key) i → ∀ j, j < i → nth (T.zs.set k key) j ≠ nth (T.zs.set k key) i)
    rw [hnth]
    refine ⟨?_, fun h0 m hm => ?_⟩
    · split
      · exact inB_true ⟨by omega, hk.2⟩
      · exact (hg i hi).1
    · rw [hnth]
      split <;> split
      · omega
      · exact (hno i hi).symm
      · exact hno m (by omega)
      · rename_i hm2 hi2
        rw [if_neg hi2] at h0
        exact (hg i hi).2 h0 m hm
  have hst : ∀ i, i < j → nth T.zs (stepS T (homeN T key) i) = nth (putAt T k key).zs (stepS T (homeN T key) i) := fun i hi => by
    show _ = nth (T.zs.set k key) _
    rw [hnth, if_neg]
    intro e
    have := h2 i hi
    rw [e] at this
    omega
  have F := find_at (T := putAt T k key) (key := key) (j := j) (by rw [putAt_len]; omega) (fun i hi => by
    rw [putAt_home]
    refine stop_is ?_ ?_
    · rw [putAt_step, ← hst i hi]
      have := h2 i hi
      omega
    · rw [putAt_step, ← hst i hi]
      exact hno _ (stepS_lt l1 _ _)) (by
    rw [putAt_home, putAt_step, hkk]
    show nth (T.zs.set k key) k = key
    rw [hnth, if_pos rfl]) hk.1
  rw [putAt_home, putAt_step, hkk] at F
  refine ⟨hv, hlt, h1, hk, hv2, F.2.2, by rw [F.1]; omega, sound_all.2 ⟨hv2, fun i hi h0 => ?_⟩⟩
  rw [putAt_len] at hi
  by_cases hik : i = k
  · subst hik
    have e2 : nth (putAt T i key).zs i = key := by
      show nth (T.zs.set i key) i = key
      rw [hnth, if_pos rfl]
    rw [e2, F.2.2]
    omega
  · have e2 : nth (putAt T k key).zs i = nth T.zs i := by
      show nth (T.zs.set k key) i = _
      rw [hnth, if_neg hik]
    rw [e2] at h0 ⊢
    have hf0 := (sound_all.1 hs).2 i hi h0
    generalize hy : nth T.zs i = y at h0 hf0 e2 ⊢
    have hh := homeN_lt hv y
    obtain ⟨a1, a2⟩ := step_away hh hi
    rw [found_iff hv a2 (by rw [a1]; exact hy) h0] at hf0
    rw [found_iff (T := putAt T k key) hv2 (j := (i + T.zs.length - homeN T y) % T.zs.length) (by rw [putAt_len]; exact a2) (by rw [putAt_home, putAt_step, a1]; exact e2) h0]
    intro m hm
    rw [putAt_home, putAt_step]
    show nth (T.zs.set k key) _ ≠ -1
    rw [hnth]
    split
    · omega
    · exact hf0 m hm

/-- All slots are keys, tombs or free. -/
theorem cnt_all (zs : List Int) : cnt keyP zs zs.length + cnt tombP zs zs.length + cnt freeP zs zs.length = zs.length := by
  unfold cnt
  rw [List.take_length]
  induction zs with
  | nil => rfl
  | cons x zs ih =>
    simp only [List.countP_cons, List.length_cons]
    have : (if keyP x = true then 1 else 0) + (if tombP x = true then 1 else 0) + (if freeP x = true then 1 else 0) = 1 := by
      unfold keyP tombP freeP
      by_cases h1 : x = -1
      · subst h1; rfl
      · by_cases h2 : x = -2
        · subst h2; rfl
        · simp [h1, h2]
    omega
theorem cnt_none {p : Int → Bool} {zs : List Int} (h : ∀ i, i < zs.length → p (nth zs i) = false) : cnt p zs zs.length = 0 := by
  unfold cnt
  rw [List.take_length, List.countP_eq_zero]
  intro x hx
  obtain ⟨i, hi, e⟩ := List.getElem_of_mem hx
  have := h i hi
  rw [nth, List.getElem?_eq_getElem hi, e] at this
  simpa using this
/-- Where no slot is free or a tomb, all are keys. -/
theorem counts_full {T : Tab} (hv : validB T = true) (h : ∀ i, i < T.zs.length → 0 ≤ nth T.zs i) : countT T = 0 ∧ countF T = 0 ∧ countK T = T.zs.length := by
  have h1 : cnt tombP T.zs T.zs.length = 0 := cnt_none fun i hi => by
    have := h i hi
    simp [tombP]; omega
  have h2 : cnt freeP T.zs T.zs.length = 0 := cnt_none fun i hi => by
    have := h i hi
    simp [freeP]; omega
  have h3 := cnt_all T.zs
  simp only [countT, countF, countK, hv, if_true]
  omega

def loadOf (T : Tab) : Int := if validB T then 100 * (countK T + countT T) / T.zs.length else -1
/-- What a share of the slots says of their numbers. -/
theorem load_says {T : Tab} (hv : validB T = true) : 0 ≤ loadOf T ∧ loadOf T ≤ 100 ∧ (loadOf T = 100 ↔ countF T = 0) ∧ loadOf T * T.zs.length ≤ 100 * (countK T + countT T) ∧ 100 * (countK T + countT T) < (loadOf T + 1) * T.zs.length := by
  obtain ⟨⟨l1, l2⟩, _⟩ := valid_facts hv
  have h3 := cnt_all T.zs
  unfold loadOf
  simp only [countT, countF, countK, hv, if_true]
  generalize cnt keyP T.zs T.zs.length = a at h3 ⊢
  generalize cnt tombP T.zs T.zs.length = b at h3 ⊢
  generalize cnt freeP T.zs T.zs.length = c at h3 ⊢
  generalize T.zs.length = n at l1 l2 h3 ⊢
  have e1 := Int.emod_add_mul_ediv (100 * ((a : Int) + b)) n
  have e2 := Int.emod_nonneg (100 * ((a : Int) + b)) (b := (n : Int)) (by omega)
  have e3 := Int.emod_lt_of_pos (100 * ((a : Int) + b)) (b := (n : Int)) (by omega)
  generalize (100 * ((a : Int) + b)) % (n : Int) = r at e1 e2 e3
  generalize 100 * ((a : Int) + b) / (n : Int) = q at e1 ⊢
  rw [Int.mul_comm] at e1
  have hq0 : 0 ≤ q := by
    refine Int.not_lt.1 fun hq => ?_
    have := Int.mul_le_mul_of_nonneg_right (a := q) (b := -1) (c := (n : Int)) (by omega) (by omega)
    omega
  have hq1 : q ≤ 100 := by
    refine Int.not_lt.1 fun hq => ?_
    have := Int.mul_le_mul_of_nonneg_right (a := 101) (b := q) (c := (n : Int)) (by omega) (by omega)
    omega
  refine ⟨hq0, hq1, ⟨fun h => ?_, fun h => ?_⟩, by omega, by rw [Int.add_mul]; omega⟩
  · subst h; omega
  · refine Int.le_antisymm hq1 (Int.not_lt.1 fun hq => ?_)
    have := Int.mul_le_mul_of_nonneg_right (a := q) (b := 99) (c := (n : Int)) (by omega) (by omega)
    omega

end Go.Proofs.Ytpncpeokdcolpaa

namespace Go.Proofs.Ytpncpeokdcolpaa

theorem nth_map {f : Int → Int} {zs : List Int} {i : Nat} (hi : i < zs.length) : nth (zs.map f) i = f (nth zs i) := by
  simp [nth, hi]
theorem nth_ext {xs ys : List Int} (hl : xs.length = ys.length) (h : ∀ i, i < xs.length → nth xs i = nth ys i) : xs = ys := by
  refine List.ext_getElem hl fun i h1 h2 => ?_
  have := h i h1
  simpa [nth, h1, h2] using this
theorem mem_nth {zs : List Int} {x : Int} (h : x ∈ zs) : ∃ i, i < zs.length ∧ nth zs i = x := by
  obtain ⟨i, hi, e⟩ := List.getElem_of_mem h
  exact ⟨i, hi, by rw [nth, List.getElem?_eq_getElem hi, e]; rfl⟩
theorem nth_mem {zs : List Int} {i : Nat} (hi : i < zs.length) : nth zs i ∈ zs := by
  rw [nth, List.getElem?_eq_getElem hi]; exact List.getElem_mem hi

/-- A key of a sound table is found where it is. -/
theorem sound_find {T : Tab} (hs : soundB T = true) {i : Nat} (hi : i < T.zs.length) (h0 : 0 ≤ nth T.zs i) : findI T (nth T.zs i) = i := by
  obtain ⟨hv, hf⟩ := sound_all.1 hs
  obtain ⟨⟨l1, _⟩, _, _, hg⟩ := valid_facts hv
  obtain ⟨e1, e2⟩ := find_yes (hf i hi h0)
  rw [e1, hg.inj (lastOf_lt l1 _) hi e2 (by rw [e2]; exact h0)]
/-- A number that no slot holds is not found. -/
theorem none_find {T : Tab} (hv : validB T = true) {y : Int} (h : ∀ i, i < T.zs.length → nth T.zs i ≠ y) : findI T y = -1 := by
  obtain ⟨⟨l1, _⟩, _⟩ := valid_facts hv
  unfold findI
  rw [if_neg (h _ (lastOf_lt l1 _))]

/-- One table has the keys of another one where they are, and perhaps fewer. -/
structure Less (T U : Tab) : Prop where
  t : U.t = T.t
  p : U.p = T.p
  len : U.zs.length = T.zs.length
  at' : ∀ i, i < T.zs.length → nth U.zs i = nth T.zs i ∨ nth U.zs i = -2 ∨ nth U.zs i = -1

theorem Less.home {T U : Tab} (h : Less T U) (y : Int) : homeN U y = homeN T y := by simp [homeN, homeI, h.t, h.p, h.len]
theorem Less.step {T U : Tab} (h : Less T U) (a i : Nat) : stepS U a i = stepS T a i := by simp [stepS, h.len]
theorem Less.key {T U : Tab} (h : Less T U) {i : Nat} (hi : i < T.zs.length) (h0 : 0 ≤ nth U.zs i) : nth U.zs i = nth T.zs i := by
  rcases h.at' i hi with e | e | e
  · exact e
  · omega
  · omega
theorem Less.valid {T U : Tab} (h : Less T U) (hv : validB T = true) : validB U = true := by
  obtain ⟨h1, h2⟩ := validB_iff.1 hv
  refine validB_iff.2 ⟨by rw [h.len, h.t, h.p]; exact h1, ?_⟩
  rw [h.len]
  intro i hi
  obtain ⟨a, b⟩ := h2 i hi
  refine ⟨?_, fun h0 j hj e => ?_⟩
  · rcases h.at' i hi with e | e | e <;> rw [e]
    · exact a
    · rfl
    · rfl
  · have k1 := h.key hi h0
    have k2 := h.key (show j < T.zs.length by omega) (by rw [e]; exact h0)
    exact b (by rw [← k1]; exact h0) j hj (by rw [← k1, ← k2]; exact e)
/-- What remains is found if no slot ahead of it becomes free. -/
theorem Less.found {T U : Tab} (h : Less T U) (hs : soundB T = true) {i : Nat} (hi : i < T.zs.length) (h0 : 0 ≤ nth U.zs i)
    (hf : ∀ m, m < (i + T.zs.length - homeN T (nth T.zs i)) % T.zs.length → nth T.zs (stepS T (homeN T (nth T.zs i)) m) ≠ -1 → nth U.zs (stepS T (homeN T (nth T.zs i)) m) ≠ -1) : 0 ≤ findI U (nth U.zs i) := by
  obtain ⟨hv, hF⟩ := sound_all.1 hs
  have hv2 := h.valid hv
  have e2 := h.key hi h0
  rw [e2] at h0 ⊢
  have hf0 := hF i hi h0
  generalize hy : nth T.zs i = y at *
  have hh := homeN_lt hv y
  obtain ⟨a1, a2⟩ := step_away hh hi
  rw [found_iff hv a2 (by rw [a1]; exact hy) h0] at hf0
  rw [found_iff (T := U) hv2 (j := (i + T.zs.length - homeN T y) % T.zs.length) (by rw [h.len]; exact a2) (by rw [h.home, h.step, a1]; exact e2) h0]
  intro m hm
  rw [h.home, h.step]
  exact hf m hm (hf0 m hm)
theorem Less.sound {T U : Tab} (h : Less T U) (hs : soundB T = true) (hf : ∀ i, i < T.zs.length → nth U.zs i = nth T.zs i ∨ nth U.zs i = -2) : soundB U = true := by
  obtain ⟨hv, _⟩ := sound_all.1 hs
  obtain ⟨⟨l1, _⟩, _⟩ := valid_facts hv
  refine sound_all.2 ⟨h.valid hv, fun i hi h0 => ?_⟩
  rw [h.len] at hi
  refine h.found hs hi h0 fun m _ h1 => ?_
  rcases hf _ (stepS_lt l1 _ _) with e | e
  · rw [e]; exact h1
  · omega

/-- Some keys become tombs. -/
def dropL (ks zs : List Int) : List Int := zs.map fun z => if z ∈ ks then -2 else z
def dropAt (T : Tab) (ks : List Int) : Tab := ⟨T.t, T.p, dropL ks T.zs⟩
theorem dropL_len (ks zs : List Int) : (dropL ks zs).length = zs.length := by simp [dropL]
theorem dropL_nth {ks zs : List Int} {i : Nat} (hi : i < zs.length) : nth (dropL ks zs) i = if nth zs i ∈ ks then -2 else nth zs i := nth_map hi
theorem dropL_nil (zs : List Int) : dropL [] zs = zs := by simp [dropL]
theorem drop_less (T : Tab) (ks : List Int) : Less T (dropAt T ks) := ⟨rfl, rfl, dropL_len _ _, fun i hi => by
  show nth (dropL ks T.zs) i = _ ∨ nth (dropL ks T.zs) i = _ ∨ _
  rw [dropL_nth hi]
  split <;> simp⟩
theorem drop_sound {T : Tab} (hs : soundB T = true) (ks : List Int) : soundB (dropAt T ks) = true := (drop_less T ks).sound hs fun i hi => by
  show nth (dropL ks T.zs) i = _ ∨ nth (dropL ks T.zs) i = _
  rw [dropL_nth hi]
  split <;> simp
/-- A key more. -/
theorem dropL_snoc {ks zs : List Int} (hg : Good zs zs.length) {k : Nat} {x : Int} (h0 : 0 ≤ x) (hk : k < zs.length) (hx : nth (dropL ks zs) k = x) : dropL (ks ++ [x]) zs = (dropL ks zs).set k (-2) := by
  refine nth_ext (by simp [dropL]) fun i hi => ?_
  rw [dropL_len] at hi
  rw [dropL_nth hi, nth_set (by rw [dropL_len]; exact hk), dropL_nth hi]
  rw [dropL_nth hk] at hx
  split at hx
  · omega
  rename_i hkn
  by_cases hik : i = k
  · subst hik
    simp [hx]
  · rw [if_neg hik]
    have : nth zs i ≠ x := fun e => hik (hg.inj hi hk (e.trans hx.symm) (by rw [e]; exact h0))
    simp only [List.mem_append, List.mem_singleton, this, or_false]
theorem dropL_keep {ks zs : List Int} {x : Int} (h : ∀ i, i < zs.length → nth (dropL ks zs) i ≠ x) : dropL (ks ++ [x]) zs = dropL ks zs := by
  refine nth_ext (by simp [dropL]) fun i hi => ?_
  rw [dropL_len] at hi
  have hn := h i hi
  rw [dropL_nth hi] at hn ⊢
  rw [dropL_nth hi]
  by_cases hm : nth zs i ∈ ks
  · simp [hm]
  · rw [if_neg hm] at hn ⊢
    simp [hm, hn]
theorem drops_step {T : Tab} (hs : soundB T = true) (ks : List Int) {x : Int} (h0 : 0 ≤ x) :
    (∃ k : Nat, k < T.zs.length ∧ findI (dropAt T ks) x = k ∧ dropL (ks ++ [x]) T.zs = (dropL ks T.zs).set k (-2)) ∨ (findI (dropAt T ks) x = -1 ∧ dropL (ks ++ [x]) T.zs = dropL ks T.zs) := by
  obtain ⟨hv, _⟩ := sound_all.1 hs
  obtain ⟨⟨l1, _⟩, _, _, hg⟩ := valid_facts hv
  have hs2 := drop_sound hs ks
  obtain ⟨hv2, _⟩ := sound_all.1 hs2
  by_cases h : ∃ k, k < T.zs.length ∧ nth (dropL ks T.zs) k = x
  · obtain ⟨k, hk, e⟩ := h
    have := sound_find hs2 (i := k) (by simpa [dropAt, dropL] using hk) (by show 0 ≤ nth (dropL ks T.zs) k; omega)
    have e2 : nth (dropAt T ks).zs k = x := e
    rw [e2] at this
    exact .inl ⟨k, hk, this, dropL_snoc hg h0 hk e⟩
  · have h' : ∀ i, i < T.zs.length → nth (dropL ks T.zs) i ≠ x := fun i hi e => h ⟨i, hi, e⟩
    exact .inr ⟨none_find hv2 fun i hi => h' i (by simpa [dropAt, dropL] using hi), dropL_keep h'⟩

/-- DropKey and DropAll of the document. -/
def dropOk (T : Tab) (key : Int) : Bool := decide (0 ≤ findOf T key) && soundB T
def dropT (T : Tab) (key : Int) : Tab := if dropOk T key then dropAt T [key] else ⟨0, 0, []⟩
def keysB (ks : List Int) : Bool := decide (ks.length ≤ 100) && ks.all fun x => inB x 0 99
def dropsOk (T : Tab) (ks : List Int) : Bool := soundB T && keysB ks
def dropsT (T : Tab) (ks : List Int) : Tab := if dropsOk T ks then dropAt T ks else ⟨0, 0, []⟩

theorem dropT_no {T : Tab} {key : Int} (h : dropOk T key = false) : dropT T key = ⟨0, 0, []⟩ := by simp [dropT, h]
theorem dropT_yes {T : Tab} {key : Int} (h : dropOk T key = true) : dropT T key = dropAt T [key] := by simp [dropT, h]
theorem dropsT_no {T : Tab} {ks : List Int} (h : dropsOk T ks = false) : dropsT T ks = ⟨0, 0, []⟩ := by simp [dropsT, h]
theorem dropsT_yes {T : Tab} {ks : List Int} (h : dropsOk T ks = true) : dropsT T ks = dropAt T ks := by simp [dropsT, h]

structure DropSays (T : Tab) (key : Int) (k : Nat) : Prop where
  val : validB T = true
  snd : soundB T = true
  key0 : 0 ≤ key ∧ key ≤ 99
  lt : k < T.zs.length
  find : findOf T key = k ∧ findI T key = k
  here : nth T.zs k = key
  eq : dropT T key = putAt T k (-2) ∧ dropT T key = dropAt T [key]
  snd2 : soundB (putAt T k (-2)) = true
  val2 : validB (putAt T k (-2)) = true
  gone : findI (putAt T k (-2)) key = -1
  same : ∀ y, y ≠ key → 0 ≤ y → findI (putAt T k (-2)) y = findI T y

theorem drop_says {T : Tab} {key : Int} (h : dropOk T key = true) : ∃ k : Nat, DropSays T key k := by
  have h' := h
  simp only [dropOk, Bool.and_eq_true, decide_eq_true_eq] at h'
  obtain ⟨hf, hs⟩ := h'
  have hfo := hf
  unfold findOf at hf
  split at hf
  · rename_i hvk
    simp only [Bool.and_eq_true] at hvk
    obtain ⟨hv, hk⟩ := hvk
    have hk := inB_iff.1 hk
    obtain ⟨⟨l1, _⟩, _, _, hg⟩ := valid_facts hv
    obtain ⟨e1, e2⟩ := find_yes hf
    have hlt := lastOf_lt (T := T) l1 key
    have hset : dropAt T [key] = putAt T (lastOf T key) (-2) := by
      have := dropL_snoc (ks := []) hg hk.1 hlt (by rw [dropL_nil]; exact e2)
      rw [dropL_nil, List.nil_append] at this
      simp only [dropAt, putAt, this]
    have hs2 : soundB (putAt T (lastOf T key) (-2)) = true := by rw [← hset]; exact drop_sound hs [key]
    have hv2 := (sound_all.1 hs2).1
    refine ⟨lastOf T key, hv, hs, hk, hlt, ⟨by rw [findOf, if_pos (by simp [hv, inB, hk]), e1], e1⟩, e2, ⟨(dropT_yes h).trans hset, dropT_yes h⟩, hs2, hv2, ?_, ?_⟩
    · refine none_find hv2 fun i hi => ?_
      rw [putAt_len] at hi
      show nth (T.zs.set _ _) i ≠ _
      rw [nth_set hlt]
      split
      · omega
      · rename_i hne
        exact fun e => hne (hg.inj hi hlt (e.trans e2.symm) (by rw [e]; exact hk.1))
    · intro y hy hy0
      have hnth : ∀ i, nth (putAt T (lastOf T key) (-2)).zs i = if i = lastOf T key then -2 else nth T.zs i := fun i => nth_set hlt _ i
      by_cases hin : ∃ i, i < T.zs.length ∧ nth T.zs i = y
      · obtain ⟨i, hi, rfl⟩ := hin
        have hne : i ≠ lastOf T key := fun e => hy (by rw [e]; exact e2)
        have a := sound_find hs hi hy0
        have b := sound_find hs2 (i := i) (by rw [putAt_len]; exact hi) (by rw [hnth, if_neg hne]; exact hy0)
        rw [hnth, if_neg hne] at b
        rw [a, b]
      · rw [none_find hv fun i hi e => hin ⟨i, hi, e⟩, none_find hv2 fun i hi => ?_]
        rw [putAt_len] at hi
        rw [hnth]
        split
        · omega
        · exact fun e => hin ⟨i, hi, e⟩
  · omega

end Go.Proofs.Ytpncpeokdcolpaa

namespace Go.Proofs.Ytpncpeokdcolpaa

/-- A row whose first k slots are changed. -/
def mapTo (f : Nat → Int → Int) (zs : List Int) (k : Nat) : List Int := (List.range zs.length).map fun i => if i < k then f i (nth zs i) else nth zs i
theorem mapTo_len (f : Nat → Int → Int) (zs : List Int) (k : Nat) : (mapTo f zs k).length = zs.length := by simp [mapTo]
theorem mapTo_nth {f : Nat → Int → Int} {zs : List Int} {k i : Nat} (hi : i < zs.length) : nth (mapTo f zs k) i = if i < k then f i (nth zs i) else nth zs i := by
  have : (mapTo f zs k)[i]? = some (if i < k then f i (nth zs i) else nth zs i) := by
    unfold mapTo
    rw [List.getElem?_map, List.getElem?_range hi]
    rfl
  rw [nth, this]
  rfl
theorem mapTo_zero (f : Nat → Int → Int) (zs : List Int) : mapTo f zs 0 = zs := nth_ext (mapTo_len ..) fun i hi => by
  rw [mapTo_len] at hi
  rw [mapTo_nth hi, if_neg (by omega)]
theorem mapTo_at {f : Nat → Int → Int} {zs : List Int} {k : Nat} (hk : k < zs.length) : nth (mapTo f zs k) k = nth zs k := by
  rw [mapTo_nth hk, if_neg (by omega)]
theorem mapTo_set {f : Nat → Int → Int} {zs : List Int} {k : Nat} (hk : k < zs.length) : (mapTo f zs k).set k (f k (nth zs k)) = mapTo f zs (k + 1) := nth_ext (by simp [mapTo]) fun i hi => by
  simp only [List.length_set, mapTo_len] at hi
  rw [nth_set (by rw [mapTo_len]; exact hk), mapTo_nth hi, mapTo_nth hi]
  by_cases h : i = k
  · subst h; simp
  · by_cases h2 : i < k
    · simp [h, h2, show i < k + 1 by omega]
    · simp [h, h2, show ¬ i < k + 1 by omega]
theorem mapTo_keep {f : Nat → Int → Int} {zs : List Int} {k : Nat} (hk : k < zs.length) (h : f k (nth zs k) = nth zs k) : mapTo f zs k = mapTo f zs (k + 1) := nth_ext (by simp [mapTo]) fun i hi => by
  rw [mapTo_len] at hi
  rw [mapTo_nth hi, mapTo_nth hi]
  by_cases h1 : i = k
  · subst h1; simp [h]
  · by_cases h2 : i < k
    · simp [h2, show i < k + 1 by omega]
    · simp [h2, show ¬ i < k + 1 by omega]
theorem mapTo_drop (ks zs : List Int) : mapTo (fun _ z => if z ∈ ks then -2 else z) zs zs.length = dropL ks zs := nth_ext (by simp [mapTo, dropL]) fun i hi => by
  rw [mapTo_len] at hi
  rw [mapTo_nth hi, if_pos hi, dropL_nth hi]

end Go.Proofs.Ytpncpeokdcolpaa

namespace Go.Proofs.Ytpncpeokdcolpaa

theorem cnt_set {p : Int → Bool} {zs : List Int} {k : Nat} {x : Int} (hk : k < zs.length) (h1 : p (nth zs k) = p x) : cnt p (zs.set k x) (zs.set k x).length = cnt p zs zs.length := by
  unfold cnt
  rw [List.take_length, List.take_length, List.countP_set hk]
  rw [nth, List.getElem?_eq_getElem hk] at h1
  have h1 : p zs[k] = p x := h1
  rw [h1]
  split
  · have : 0 < zs.countP p := List.countP_pos_iff.2 ⟨zs[k], List.getElem_mem hk, by rw [h1]; assumption⟩
    omega
  · omega

/-- Of a table T, its key and the table U without it. -/
structure DropFacts (T : Tab) (key : Int) (U : Tab) : Prop where
  len : U.zs.length = T.zs.length
  n1 : 1 ≤ T.zs.length
  n2 : T.zs.length ≤ 16
  val : validB T = true
  key0 : 0 ≤ key ∧ key ≤ 99
  gone : findOf U key = -1
  same : ∀ y, y ≠ key → 0 ≤ y → y ≤ 99 → (∃ i, i < T.zs.length ∧ nth T.zs i = y) → 0 ≤ findOf U y ∧ findOf T y = findOf U y
  snd : soundB U = true
  put : putOk U key = true
  snd2 : soundB (putT U key) = true
  load : loadOf U = loadOf T
theorem drop_facts {T : Tab} {key : Int} (h : dropOk T key = true) : DropFacts T key (dropT T key) := by
  obtain ⟨k, D⟩ := drop_says h
  rw [D.eq.1]
  obtain ⟨⟨l1, l2⟩, _⟩ := valid_facts D.val
  have hk : inB key 0 99 = true := inB_true D.key0
  have hnth : nth (putAt T k (-2)).zs k = -2 := by
    show nth (T.zs.set k (-2)) k = -2
    rw [nth_set D.lt, if_pos rfl]
  have hput : putOk (putAt T k (-2)) key = true := by
    simp only [putOk, D.snd2, Bool.and_true, decide_eq_true_eq]
    refine Int.not_lt.1 fun hlt => ?_
    have := place_no D.val2 D.key0 (by rw [D.gone]; omega) hlt k (by rw [putAt_len]; exact D.lt)
    rw [hnth] at this
    omega
  refine ⟨putAt_len _ _ _, l1, l2, D.val, D.key0, ?_, fun y hy h0 h9 hin => ?_, D.snd2, hput, ?_, ?_⟩
  · rw [findOf, if_pos (by rw [D.val2, hk]; rfl), D.gone]
  · obtain ⟨i, hi, e⟩ := hin
    have hyB : inB y 0 99 = true := inB_true ⟨h0, h9⟩
    have h1 := sound_find D.snd hi (by rw [e]; exact h0)
    rw [e] at h1
    have h2 := D.same y hy h0
    rw [findOf, if_pos (by rw [D.val2, hyB]; rfl), findOf, if_pos (by rw [D.val, hyB]; rfl), h2, h1]
    exact ⟨by omega, rfl⟩
  · have := (put_says hput).sound2
    rw [putT, if_pos hput]
    exact this
  · have e1 : cnt freeP (T.zs.set k (-2)) (T.zs.set k (-2)).length = cnt freeP T.zs T.zs.length := cnt_set D.lt (by
      have := D.key0
      rw [D.here]
      have h1 : freeP key = false := by simp [freeP]; omega
      rw [h1]; rfl)
    have e2 := cnt_all T.zs
    have e3 := cnt_all (T.zs.set k (-2))
    have e4 : (T.zs.set k (-2)).length = T.zs.length := by simp
    unfold loadOf countK countT
    rw [D.val, D.val2]
    simp only [if_true, putAt]
    rw [e1] at e3
    rw [e4] at e3 ⊢
    congr 2
    omega

end Go.Proofs.Ytpncpeokdcolpaa

namespace Go.Proofs.Ytpncpeokdcolpaa

/-- Around a ring of n slots: m slots on from h; and how far s is behind h. -/
def fwd (n h m : Nat) : Nat := if h + m < n then h + m else h + m - n
def dst (n h s : Nat) : Nat := if h ≤ s then s - h else s + n - h
theorem fwd_lt {n h m : Nat} (hh : h < n) (hm : m ≤ n) : fwd n h m < n := by unfold fwd; split <;> omega
theorem dst_lt {n h s : Nat} (hh : h < n) (hs : s < n) : dst n h s < n := by unfold dst; split <;> omega
theorem fwd_dst {n h s : Nat} (hh : h < n) (hs : s < n) : fwd n h (dst n h s) = s := by unfold fwd dst; split <;> split <;> omega
theorem dst_fwd {n h m : Nat} (hh : h < n) (hm : m < n) : dst n h (fwd n h m) = m := by unfold fwd dst; split <;> split <;> omega
theorem dst_cases (n h s : Nat) : (h ≤ s ∧ dst n h s = s - h) ∨ (s < h ∧ dst n h s = s + n - h) := by
  unfold dst; split <;> omega
theorem fwd_cases (n h m : Nat) : (h + m < n ∧ fwd n h m = h + m) ∨ (n ≤ h + m ∧ fwd n h m = h + m - n) := by
  unfold fwd; split <;> omega
theorem dst_cut {n h o d : Nat} (hh : h < n) (_ho : o < n) (hd : d < n) (ha : ¬ dst n h (fwd n o d) < d) : dst n h o + d = dst n h (fwd n o d) := by
  rcases fwd_cases n o d with ⟨c1, e1⟩ | ⟨c1, e1⟩ <;> rcases dst_cases n h (fwd n o d) with ⟨c2, e2⟩ | ⟨c2, e2⟩ <;> rcases dst_cases n h o with ⟨c3, e3⟩ | ⟨c3, e3⟩ <;> omega
theorem dst_past {n h o d : Nat} (hh : h < n) (ho : o < n) (hd : d < n) (ha : dst n h (fwd n o d) < d) (hm : dst n h o < dst n h (fwd n o d)) : False := by
  rcases fwd_cases n o d with ⟨c1, e1⟩ | ⟨c1, e1⟩ <;> rcases dst_cases n h (fwd n o d) with ⟨c2, e2⟩ | ⟨c2, e2⟩ <;> rcases dst_cases n h o with ⟨c3, e3⟩ | ⟨c3, e3⟩ <;> omega
theorem dst_sum {n h o s : Nat} (hh : h < n) (ho : o < n) (hs : s < n) (hm : dst n h o < dst n h s) : dst n h s = dst n h o + dst n o s := by
  rcases dst_cases n h s with ⟨c1, e1⟩ | ⟨c1, e1⟩ <;> rcases dst_cases n o s with ⟨c2, e2⟩ | ⟨c2, e2⟩ <;> rcases dst_cases n h o with ⟨c3, e3⟩ | ⟨c3, e3⟩ <;> omega
theorem fwd_add {n h m d : Nat} (hh : h < n) (hm : m + d < n) : fwd n h (m + d) = fwd n (fwd n h m) d := by
  rcases fwd_cases n h m with ⟨c1, e1⟩ | ⟨c1, e1⟩ <;> rcases fwd_cases n h (m + d) with ⟨c2, e2⟩ | ⟨c2, e2⟩ <;> rcases fwd_cases n (fwd n h m) d with ⟨c3, e3⟩ | ⟨c3, e3⟩ <;> omega
theorem fwd_step {T : Tab} {h m : Nat} (hh : h < T.zs.length) (hm : m ≤ T.zs.length) : stepS T h m = fwd T.zs.length h m := by
  unfold stepS fwd
  split
  · exact Nat.mod_eq_of_lt (by assumption)
  · rw [Nat.mod_eq_sub_mod (by omega), Nat.mod_eq_of_lt (by omega)]
theorem dst_mod {n h s : Nat} (hh : h < n) (hs : s < n) : (s + n - h) % n = dst n h s := by
  unfold dst
  split
  · rw [Nat.mod_eq_sub_mod (by omega), Nat.mod_eq_of_lt (by omega)]; omega
  · exact Nat.mod_eq_of_lt (by omega)

/-- A table's head with other slots. -/
def tab (T : Tab) (zs : List Int) : Tab := ⟨T.t, T.p, zs⟩
theorem tab_self (T : Tab) : tab T T.zs = T := rfl
theorem tab_home {T : Tab} {zs : List Int} (hl : zs.length = T.zs.length) (y : Int) : homeN (tab T zs) y = homeN T y := by simp [homeN, homeI, tab, hl]

/-- How far from home the key of a slot lies. -/
def awN (T : Tab) (zs : List Int) (i : Nat) : Nat := dst T.zs.length (homeN T (nth zs i)) i
theorem awN_of {T : Tab} {zs : List Int} (hv : validB (tab T zs) = true) (hl : zs.length = T.zs.length) {i : Nat} (hi : i < T.zs.length) (h0 : 0 ≤ nth zs i) : awayOf (tab T zs) i = awN T zs i := by
  have hh : homeN (tab T zs) (nth zs i) < (tab T zs).zs.length := homeN_lt hv _
  have hi' : i < (tab T zs).zs.length := by show i < zs.length; omega
  obtain ⟨a1, a2⟩ := step_away hh hi'
  have e := away_step hv (x := nth zs i) a2 (by rw [a1]; rfl) h0
  rw [a1] at e
  rw [e, dst_mod hh hi', tab_home hl]
  show ((dst zs.length _ _ : Nat) : Int) = _
  rw [hl]; rfl

/-- The machine: the slot d behind the hole is looked at. What it hands back: the keys that are shifted, and the slots. -/
def shiftF (T : Tab) : Nat → List Int → Nat → Nat → List Int × List Int
  | 0, zs, _, _ => ([], zs)
  | f + 1, zs, hole, d =>
    if nth zs (fwd T.zs.length hole d) = -1 then ([], zs)
    else if awN T zs (fwd T.zs.length hole d) < d then shiftF T f zs hole (d + 1)
    else ((nth zs (fwd T.zs.length hole d)) :: (shiftF T f ((zs.set hole (nth zs (fwd T.zs.length hole d))).set (fwd T.zs.length hole d) (-1)) (fwd T.zs.length hole d) 1).1,
      (shiftF T f ((zs.set hole (nth zs (fwd T.zs.length hole d))).set (fwd T.zs.length hole d) (-1)) (fwd T.zs.length hole d) 1).2)

structure Hole (T : Tab) (zs : List Int) (hole d : Nat) : Prop where
  val : validB (tab T zs) = true
  len : zs.length = T.zs.length
  lt : hole < T.zs.length
  free : nth zs hole = -1
  d1 : 1 ≤ d
  d2 : d ≤ T.zs.length
  plain : ∀ i, i < T.zs.length → nth zs i ≠ -2

def moved (T : Tab) (zs : List Int) (hole d : Nat) : List Int := (zs.set hole (nth zs (fwd T.zs.length hole d))).set (fwd T.zs.length hole d) (-1)
theorem moved_len (T : Tab) (zs : List Int) (hole d : Nat) : (moved T zs hole d).length = zs.length := by simp [moved]

theorem Hole.klt {T : Tab} {zs : List Int} {hole d : Nat} (h : Hole T zs hole d) : fwd T.zs.length hole d < T.zs.length := fwd_lt h.lt h.d2
theorem Hole.full {T : Tab} {zs : List Int} {hole d : Nat} (h : Hole T zs hole d) (hx : nth zs (fwd T.zs.length hole d) ≠ -1) : d < T.zs.length ∧ fwd T.zs.length hole d ≠ hole ∧ 0 ≤ nth zs (fwd T.zs.length hole d) ∧ nth zs (fwd T.zs.length hole d) ≤ 99 := by
  have hl := h.lt
  have h2 := h.d2
  have hne : fwd T.zs.length hole d ≠ hole := fun e => hx (by rw [e]; exact h.free)
  have hs := valid_slot h.val (i := fwd T.zs.length hole d) (by show _ < zs.length; rw [h.len]; exact h.klt)
  have hp := h.plain _ h.klt
  have : (tab T zs).zs = zs := rfl
  rw [this] at hs
  refine ⟨?_, hne, by omega, hs.2⟩
  refine Nat.lt_of_le_of_ne h2 fun e => hne ?_
  unfold fwd; split <;> omega
theorem Hole.pass {T : Tab} {zs : List Int} {hole d : Nat} (h : Hole T zs hole d) (hx : nth zs (fwd T.zs.length hole d) ≠ -1) : Hole T zs hole (d + 1) :=
  { h with d1 := by omega, d2 := (h.full hx).1 }
theorem Hole.nth_moved {T : Tab} {zs : List Int} {hole d : Nat} (h : Hole T zs hole d) (i : Nat) :
    nth (moved T zs hole d) i = if i = fwd T.zs.length hole d then -1 else if i = hole then nth zs (fwd T.zs.length hole d) else nth zs i := by
  unfold moved
  rw [nth_set (by rw [List.length_set, h.len]; exact h.klt), nth_set (by rw [h.len]; exact h.lt)]
theorem Hole.move {T : Tab} {zs : List Int} {hole d : Nat} (h : Hole T zs hole d) (hx : nth zs (fwd T.zs.length hole d) ≠ -1) : Hole T (moved T zs hole d) (fwd T.zs.length hole d) 1 := by
  obtain ⟨f1, f2, f3, f4⟩ := h.full hx
  have hl := h.lt
  have hk := h.klt
  have hn := h.nth_moved
  obtain ⟨_, _, _, hg⟩ := valid_facts h.val
  have hg : Good zs zs.length := hg
  generalize hkk : fwd T.zs.length hole d = k at *
  refine ⟨validB_iff.2 ⟨?_, ?_⟩, by rw [moved_len]; exact h.len, hk, by rw [hn, if_pos rfl], Nat.le_refl _, by omega, fun i hi => ?_⟩
  · have := (validB_iff.1 h.val).1
    show headB (moved T zs hole d).length T.t T.p = true
    rw [moved_len]; exact this
  · show Good (moved T zs hole d) (moved T zs hole d).length
    rw [moved_len, h.len]
    intro i hi
    rw [hn i]
    refine ⟨?_, fun h0 j hj => ?_⟩
    · split
      · rfl
      · split
        · exact inB_true ⟨by omega, f4⟩
        · exact (hg i (by rw [h.len]; exact hi)).1
    · rw [hn j]
      by_cases c1 : i = k
      · rw [if_pos c1] at h0; omega
      · rw [if_neg c1] at h0 ⊢
        by_cases c2 : i = hole
        · rw [if_pos c2] at h0 ⊢
          split
          · omega
          · rw [if_neg (by omega)]
            intro e
            rename_i c3
            exact c3 (hg.inj (by rw [h.len]; omega) (by rw [h.len]; exact hk) e (by rw [e]; exact h0))
        · rw [if_neg c2] at h0 ⊢
          split
          · omega
          · split
            · intro e
              exact c1 (hg.inj (by rw [h.len]; exact hi) (by rw [h.len]; exact hk) e.symm h0)
            · intro e
              have := hg.inj (by rw [h.len]; omega) (by rw [h.len]; exact hi) e (by rw [e]; exact h0)
              omega
  · rw [hn i]
    split
    · omega
    · split
      · omega
      · exact h.plain i hi

/-- Sums. -/
def sumN (f : Nat → Nat) : Nat → Nat
  | 0 => 0
  | k + 1 => sumN f k + f k
theorem sumN_same {f g : Nat → Nat} {n : Nat} (h : ∀ j, j < n → f j = g j) : sumN f n = sumN g n := by
  induction n with
  | zero => rfl
  | succ n ih => simp only [sumN]; rw [ih fun j hj => h j (by omega), h n (by omega)]
theorem sumN_one {f g : Nat → Nat} {n i : Nat} (hi : i < n) (h : ∀ j, j < n → j ≠ i → f j = g j) : sumN f n + g i = sumN g n + f i := by
  induction n with
  | zero => omega
  | succ n ih =>
    simp only [sumN]
    by_cases e : i = n
    · subst e
      rw [sumN_same (g := g) fun j hj => h j (by omega) (by omega)]; omega
    · have := ih (by omega) fun j hj hne => h j (by omega) hne
      rw [h n (by omega) (by omega)]; omega

def awZ (T : Tab) (zs : List Int) (i : Nat) : Nat := if 0 ≤ nth zs i then awN T zs i else 0
/-- How long the machine may still run. -/
def meas (T : Tab) (zs : List Int) (d : Nat) : Nat := 17 * sumN (awZ T zs) T.zs.length + (17 - d)
theorem meas_pass {T : Tab} {zs : List Int} {hole d : Nat} (h : Hole T zs hole d) (hx : nth zs (fwd T.zs.length hole d) ≠ -1) : meas T zs (d + 1) < meas T zs d := by
  have := (h.full hx).1
  obtain ⟨⟨_, l2⟩, _⟩ := valid_facts h.val
  have l2 : zs.length ≤ 16 := l2
  rw [h.len] at l2
  unfold meas; omega
theorem meas_move {T : Tab} {zs : List Int} {hole d : Nat} (h : Hole T zs hole d) (hx : nth zs (fwd T.zs.length hole d) ≠ -1) (ha : ¬ awN T zs (fwd T.zs.length hole d) < d) : meas T (moved T zs hole d) 1 < meas T zs d := by
  obtain ⟨f1, f2, f3, f4⟩ := h.full hx
  have hl := h.lt
  have hk := h.klt
  have hn := h.nth_moved
  have hd := h.d1
  have hh : homeN T (nth zs (fwd T.zs.length hole d)) < T.zs.length := by
    have := homeN_lt h.val (nth zs (fwd T.zs.length hole d))
    rw [tab_home h.len] at this
    have e : (tab T zs).zs.length = T.zs.length := h.len
    omega
  have hd2 : dst T.zs.length (homeN T (nth zs (fwd T.zs.length hole d))) hole + d = awN T zs (fwd T.zs.length hole d) := by
    exact dst_cut hh hl f1 ha
  have s1 := sumN_one (f := awZ T zs) (g := fun j => if j = hole then awZ T (moved T zs hole d) hole else awZ T zs j) hl fun j _ hne => by simp [hne]
  have s2 := sumN_one (f := fun j => if j = hole then awZ T (moved T zs hole d) hole else awZ T zs j) (g := awZ T (moved T zs hole d)) hk fun j hj hne => by
    by_cases e : j = hole
    · subst e; simp
    · rw [if_neg e]
      unfold awZ awN
      rw [hn j, if_neg hne, if_neg e]
  have z1 : awZ T zs hole = 0 := by unfold awZ; rw [h.free]; rfl
  have z2 : awZ T (moved T zs hole d) (fwd T.zs.length hole d) = 0 := by unfold awZ; rw [hn, if_pos rfl]; rfl
  have z3 : awZ T zs (fwd T.zs.length hole d) = awN T zs (fwd T.zs.length hole d) := by unfold awZ; rw [if_pos f3]
  have z4 : awZ T (moved T zs hole d) hole = dst T.zs.length (homeN T (nth zs (fwd T.zs.length hole d))) hole := by
    unfold awZ awN
    rw [hn hole, if_neg (Ne.symm f2), if_pos rfl, if_pos f3]
  simp only [if_true, z1, f2, if_false, z2, z3, z4] at s1 s2
  unfold meas
  omega

theorem shiftF_enough (T : Tab) : ∀ (f g : Nat) (zs : List Int) (hole d : Nat), Hole T zs hole d → meas T zs d < f → meas T zs d < g → shiftF T f zs hole d = shiftF T g zs hole d := by
  intro f
  induction f with
  | zero => intro g zs hole d _ h; omega
  | succ f ih =>
    intro g zs hole d hH hf hg
    obtain ⟨g, rfl⟩ : ∃ k, g = k + 1 := ⟨g - 1, by omega⟩
    simp only [shiftF]
    split
    · rfl
    · rename_i hx
      split
      · have := meas_pass hH hx
        exact ih _ _ _ _ (hH.pass hx) (by omega) (by omega)
      · rename_i ha
        have := meas_move hH hx ha
        have e := ih g _ _ _ (hH.move hx) (by omega) (by omega)
        unfold moved at e
        rw [e]

/-- All of it. -/
def shiftR (T : Tab) (zs : List Int) (hole d : Nat) : List Int × List Int := shiftF T (meas T zs d + 1) zs hole d
theorem shift_stop {T : Tab} {zs : List Int} {hole d : Nat} (hx : nth zs (fwd T.zs.length hole d) = -1) : shiftR T zs hole d = ([], zs) := by
  unfold shiftR; simp only [shiftF]; rw [if_pos hx]
theorem shift_pass {T : Tab} {zs : List Int} {hole d : Nat} (h : Hole T zs hole d) (hx : nth zs (fwd T.zs.length hole d) ≠ -1) (ha : awN T zs (fwd T.zs.length hole d) < d) : shiftR T zs hole d = shiftR T zs hole (d + 1) := by
  have := meas_pass h hx
  unfold shiftR
  conv => lhs; simp only [shiftF]
  rw [if_neg hx, if_pos ha]
  exact shiftF_enough T _ _ _ _ _ (h.pass hx) (by omega) (by omega)
theorem shift_move {T : Tab} {zs : List Int} {hole d : Nat} (h : Hole T zs hole d) (hx : nth zs (fwd T.zs.length hole d) ≠ -1) (ha : ¬ awN T zs (fwd T.zs.length hole d) < d) :
    shiftR T zs hole d = (nth zs (fwd T.zs.length hole d) :: (shiftR T (moved T zs hole d) (fwd T.zs.length hole d) 1).1, (shiftR T (moved T zs hole d) (fwd T.zs.length hole d) 1).2) := by
  have := meas_move h hx ha
  unfold shiftR
  conv => lhs; simp only [shiftF]
  rw [if_neg hx, if_neg ha]
  have e := shiftF_enough T (meas T zs d) (meas T (moved T zs hole d) 1 + 1) _ _ _ (h.move hx) (by omega) (by omega)
  unfold moved at e
  unfold moved
  rw [e]

/-- No key's way leads over a free slot, but over the hole, of keys that lie d slots or more behind it. -/
def Ways (T : Tab) (zs : List Int) (hole d : Nat) : Prop := ∀ s, s < T.zs.length → 0 ≤ nth zs s → ∀ m, m < awN T zs s →
  nth zs (fwd T.zs.length (homeN T (nth zs s)) m) ≠ -1 ∨ (fwd T.zs.length (homeN T (nth zs s)) m = hole ∧ d ≤ dst T.zs.length hole s)

theorem Hole.home {T : Tab} {zs : List Int} {hole d : Nat} (h : Hole T zs hole d) (y : Int) : homeN T y < T.zs.length := by
  have := homeN_lt h.val y
  rw [tab_home h.len] at this
  have e : (tab T zs).zs.length = T.zs.length := h.len
  omega

theorem Ways.pass {T : Tab} {zs : List Int} {hole d : Nat} (w : Ways T zs hole d) (h : Hole T zs hole d) (hx : nth zs (fwd T.zs.length hole d) ≠ -1) (ha : awN T zs (fwd T.zs.length hole d) < d) : Ways T zs hole (d + 1) := by
  intro s hs h0 m hm
  rcases w s hs h0 m hm with c | ⟨c1, c2⟩
  · exact .inl c
  · right
    refine ⟨c1, ?_⟩
    obtain ⟨f1, f2, f3, f4⟩ := h.full hx
    by_cases e : s = fwd T.zs.length hole d
    · exfalso
      subst e
      have hl := h.lt
      have hh := h.home (nth zs (fwd T.zs.length hole d))
      unfold awN at hm ha
      generalize homeN T (nth zs (fwd T.zs.length hole d)) = hm' at *
      have hlt := dst_lt hh h.klt
      have e2 : dst T.zs.length hm' hole = m := by rw [← c1]; exact dst_fwd hh (by omega)
      exact dst_past hh hl f1 ha (by omega)
    · have hl := h.lt
      have : dst T.zs.length hole s ≠ d := fun e2 => e (by rw [← e2]; exact (fwd_dst hl hs).symm)
      omega
theorem Ways.move {T : Tab} {zs : List Int} {hole d : Nat} (w : Ways T zs hole d) (h : Hole T zs hole d) (hx : nth zs (fwd T.zs.length hole d) ≠ -1) (ha : ¬ awN T zs (fwd T.zs.length hole d) < d) : Ways T (moved T zs hole d) (fwd T.zs.length hole d) 1 := by
  obtain ⟨f1, f2, f3, f4⟩ := h.full hx
  have hl := h.lt
  have hk := h.klt
  have hn := h.nth_moved
  have hd := h.d1
  intro s hs h0 m hm
  by_cases c : nth (moved T zs hole d) (fwd T.zs.length (homeN T (nth (moved T zs hole d) s)) m) = -1
  · right
    rw [hn s] at h0
    split at h0
    · omega
    rename_i s1
    have hms : nth (moved T zs hole d) s = if s = hole then nth zs (fwd T.zs.length hole d) else nth zs s := by rw [hn s, if_neg s1]
    unfold awN at hm
    rw [hms] at hm c ⊢
    have hpos : 1 ≤ dst T.zs.length (fwd T.zs.length hole d) s := by
      generalize fwd T.zs.length hole d = k at *
      unfold dst; split <;> omega
    refine ⟨?_, hpos⟩
    by_cases s2 : s = hole
    · -- the shifted key
      rw [if_pos s2] at hm c ⊢
      subst s2
      exfalso
      have hh := h.home (nth zs (fwd T.zs.length s d))
      have hw := w _ hk f3 m
      unfold awN at hw ha
      have hml : m < dst T.zs.length (homeN T (nth zs (fwd T.zs.length s d))) (fwd T.zs.length s d) ∧ fwd T.zs.length (homeN T (nth zs (fwd T.zs.length s d))) m ≠ s ∧ fwd T.zs.length (homeN T (nth zs (fwd T.zs.length s d))) m ≠ fwd T.zs.length s d := by
        generalize homeN T (nth zs (fwd T.zs.length s d)) = hm' at *
        have hc := dst_cut hh hl f1 ha
        have hlt := dst_lt hh hk
        refine ⟨by omega, fun e => ?_, fun e => ?_⟩
        · have e2 : dst T.zs.length hm' s = m := by rw [← e]; exact dst_fwd hh (by omega)
          omega
        · have e2 : dst T.zs.length hm' (fwd T.zs.length s d) = m := by rw [← e]; exact dst_fwd hh (by omega)
          omega
      rw [hn, if_neg hml.2.2, if_neg hml.2.1] at c
      rcases hw hml.1 with c2 | ⟨c2, _⟩
      · exact c2 c
      · exact hml.2.1 c2
    · rw [if_neg s2] at hm c h0 ⊢
      rw [hn] at c
      split at c
      · assumption
      · rename_i c1
        split at c
        · omega
        · rename_i c2
          rcases w s hs h0 m hm with c3 | ⟨c3, _⟩
          · exact absurd c c3
          · exact absurd c3 c2
  · exact .inl c

/-- What the machine leaves. -/
structure Left (T : Tab) (zs : List Int) : Prop where
  val : validB (tab T zs) = true
  len : zs.length = T.zs.length
  plain : ∀ i, i < T.zs.length → nth zs i ≠ -2
  way : ∀ s, s < T.zs.length → 0 ≤ nth zs s → ∀ m, m < awN T zs s → nth zs (fwd T.zs.length (homeN T (nth zs s)) m) ≠ -1

theorem Ways.stop {T : Tab} {zs : List Int} {hole d : Nat} (w : Ways T zs hole d) (h : Hole T zs hole d) (hx : nth zs (fwd T.zs.length hole d) = -1) : Left T zs := by
  refine ⟨h.val, h.len, h.plain, fun s hs h0 m hm => ?_⟩
  rcases w s hs h0 m hm with c | ⟨c1, c2⟩
  · exact c
  · exfalso
    have hl := h.lt
    have hh := h.home (nth zs s)
    have hd := h.d1
    have hd2 := h.d2
    have hds := dst_lt hl hs
    by_cases e : dst T.zs.length hole s = d
    · rw [← e, fwd_dst hl hs] at hx; omega
    · have hw := w s hs h0
      unfold awN at hm hw
      have hk := h.klt
      -- the free slot lies on the way as well
      have hm2 : m + d < dst T.zs.length (homeN T (nth zs s)) s ∧ fwd T.zs.length (homeN T (nth zs s)) (m + d) = fwd T.zs.length hole d ∧ fwd T.zs.length hole d ≠ hole := by
        generalize homeN T (nth zs s) = hm' at *
        have hml : m < T.zs.length := by have := dst_lt hh hs; omega
        have e2 : dst T.zs.length hm' hole = m := by rw [← c1]; exact dst_fwd hh hml
        have hsum := dst_sum hh hl hs (by omega)
        have hsl := dst_lt hh hs
        refine ⟨by omega, by rw [fwd_add hh (by omega), c1], fun e3 => ?_⟩
        have := dst_fwd hl (m := d) (by omega)
        rw [e3] at this
        have e4 : dst T.zs.length hole hole = 0 := by unfold dst; simp
        omega
      rcases hw (m + d) hm2.1 with c3 | ⟨c3, _⟩
      · rw [hm2.2.1] at c3; exact c3 hx
      · rw [hm2.2.1] at c3; exact hm2.2.2 c3
theorem shift_left (T : Tab) : ∀ (f : Nat) (zs : List Int) (hole d : Nat), Hole T zs hole d → Ways T zs hole d → meas T zs d < f → Left T (shiftF T f zs hole d).2 := by
  intro f
  induction f with
  | zero => intro zs hole d _ _ h; omega
  | succ f ih =>
    intro zs hole d hH hW hf
    simp only [shiftF]
    split
    · rename_i hx; exact hW.stop hH hx
    · rename_i hx
      split
      · rename_i ha
        have := meas_pass hH hx
        exact ih _ _ _ (hH.pass hx) (hW.pass hH hx ha) (by omega)
      · rename_i ha
        have := meas_move hH hx ha
        exact ih (moved T zs hole d) _ _ (hH.move hx) (hW.move hH hx ha) (by omega)

/-- Where no way leads over the hole nothing is shifted. -/
theorem shift_none (T : Tab) : ∀ (f : Nat) (zs : List Int) (hole d : Nat), Hole T zs hole d → Left T zs → meas T zs d < f → shiftF T f zs hole d = ([], zs) := by
  intro f
  induction f with
  | zero => intro zs hole d _ _ h; omega
  | succ f ih =>
    intro zs hole d hH hL hf
    simp only [shiftF]
    split
    · rfl
    · rename_i hx
      obtain ⟨f1, f2, f3, f4⟩ := hH.full hx
      have hk := hH.klt
      have hl := hH.lt
      have hd := hH.d1
      have ha : awN T zs (fwd T.zs.length hole d) < d := by
        refine Nat.lt_of_not_le fun ha => ?_
        have hw := hL.way _ hk f3 (awN T zs (fwd T.zs.length hole d) - d) (by omega)
        have hh := hH.home (nth zs (fwd T.zs.length hole d))
        unfold awN at ha hw
        have e : fwd T.zs.length (homeN T (nth zs (fwd T.zs.length hole d))) (dst T.zs.length (homeN T (nth zs (fwd T.zs.length hole d))) (fwd T.zs.length hole d) - d) = hole := by
          have hc := dst_cut hh hl f1 (by omega)
          rw [show dst T.zs.length (homeN T (nth zs (fwd T.zs.length hole d))) (fwd T.zs.length hole d) - d = dst T.zs.length (homeN T (nth zs (fwd T.zs.length hole d))) hole by omega]
          exact fwd_dst hh hl
        rw [e] at hw
        exact hw hH.free
      rw [if_pos ha]
      have := meas_pass hH hx
      exact ih _ _ _ (hH.pass hx) hL (by omega)

end Go.Proofs.Ytpncpeokdcolpaa

namespace Go.Proofs.Ytpncpeokdcolpaa

/-- Sound, and without tombs. -/
def plainB (T : Tab) : Bool := soundB T && !decide (-2 ∈ T.zs)
theorem plain_parts {T : Tab} (h : plainB T = true) : soundB T = true ∧ validB T = true ∧ ∀ i, i < T.zs.length → nth T.zs i ≠ -2 := by
  simp only [plainB, Bool.and_eq_true, Bool.not_eq_true', decide_eq_false_iff_not] at h
  exact ⟨h.1, (sound_all.1 h.1).1, fun i hi e => h.2 (by rw [← e]; exact nth_mem hi)⟩

theorem tab_id {T : Tab} {zs : List Int} (h : zs = T.zs) : tab T zs = T := by subst h; rfl

/-- A plain table has no free slot on any way. -/
theorem plain_left {T : Tab} (h : plainB T = true) : Left T T.zs := by
  obtain ⟨hs, hv, hp⟩ := plain_parts h
  refine ⟨hv, rfl, hp, fun s hs' h0 m hm => ?_⟩
  have hf := (sound_all.1 hs).2 s hs' h0
  have hh := homeN_lt hv (nth T.zs s)
  obtain ⟨a1, a2⟩ := step_away hh hs'
  rw [found_iff hv a2 (by rw [a1]) h0] at hf
  rw [dst_mod hh hs'] at hf
  have hml := dst_lt hh hs'
  have := hf m hm
  unfold awN at hm
  rwa [fwd_step hh (by omega)] at this
theorem left_plain {T : Tab} {zs : List Int} (h : Left T zs) : plainB (tab T zs) = true := by
  have hl : (tab T zs).zs.length = T.zs.length := h.len
  have hs : soundB (tab T zs) = true := by
    refine sound_all.2 ⟨h.val, fun i hi h0 => ?_⟩
    rw [hl] at hi
    have h0' : 0 ≤ nth zs i := h0
    have hh := homeN_lt h.val (nth zs i)
    obtain ⟨a1, a2⟩ := step_away hh (by rw [hl]; exact hi)
    show 0 ≤ findI (tab T zs) (nth zs i)
    refine (found_iff h.val a2 (by rw [a1]; rfl) h0').2 fun m hm => ?_
    rw [dst_mod hh (by rw [hl]; exact hi)] at hm a2
    show nth zs _ ≠ -1
    rw [fwd_step hh (by omega), hl, tab_home h.len]
    rw [hl, tab_home h.len] at hm
    exact h.way i hi h0' m hm
  simp only [plainB, hs, Bool.true_and, Bool.not_eq_true', decide_eq_false_iff_not]
  intro hm
  obtain ⟨i, hi, e⟩ := mem_nth (zs := zs) hm
  exact h.plain i (by rw [← h.len]; exact hi) e

/-- A key's slot becomes the hole. -/
theorem hole_start {T : Tab} {zs : List Int} (h : Left T zs) {k : Nat} (hk : k < T.zs.length) (_h0 : 0 ≤ nth zs k) : Hole T (zs.set k (-1)) k 1 ∧ Ways T (zs.set k (-1)) k 1 := by
  have hkz : k < zs.length := by rw [h.len]; exact hk
  have hn := nth_set hkz (-1)
  obtain ⟨h1, h2⟩ := validB_iff.1 h.val
  have h2 : Good zs zs.length := h2
  constructor
  · refine ⟨validB_iff.2 ⟨?_, ?_⟩, by simp [h.len], hk, by rw [hn, if_pos rfl], Nat.le_refl _, by omega, fun i hi => ?_⟩
    · show headB (zs.set k (-1)).length T.t T.p = true
      rw [List.length_set]; exact h1
    · show Good (zs.set k (-1)) (zs.set k (-1)).length
      rw [List.length_set]
      intro i hi
      rw [hn i]
      refine ⟨?_, fun h0 j hj => ?_⟩
      · split
        · rfl
        · exact (h2 i hi).1
      · split at h0
        · omega
        · rename_i hne
          rw [hn j, if_neg hne]
          split
          · omega
          · exact (h2 i hi).2 h0 j hj
    · rw [hn i]
      split
      · omega
      · exact h.plain i hi
  · intro s hs hs0 m hm
    rw [hn s] at hs0
    split at hs0
    · omega
    rename_i hne
    have e : nth (zs.set k (-1)) s = nth zs s := by rw [hn, if_neg hne]
    unfold awN at hm
    rw [e] at hm ⊢
    rw [hn]
    split
    · rename_i e2
      right
      refine ⟨e2, ?_⟩
      rcases dst_cases T.zs.length k s with ⟨c, e3⟩ | ⟨c, e3⟩ <;> omega
    · left
      exact h.way s hs hs0 m hm

def shiftOk (T : Tab) (key : Int) : Bool := decide (0 ≤ findOf T key) && plainB T
/-- The keys that are shifted, and the slots behind that, of a table in whose slot k the key lies. -/
def shiftZ (T : Tab) (zs : List Int) (k : Nat) : List Int × List Int := shiftR T (zs.set k (-1)) k 1
def shiftL (T : Tab) (key : Int) : List Int := if shiftOk T key then (shiftZ T T.zs (findOf T key).toNat).1 else []
def shiftT (T : Tab) (key : Int) : Tab := if shiftOk T key then tab T (shiftZ T T.zs (findOf T key).toNat).2 else ⟨0, 0, []⟩

theorem shiftZ_left {T : Tab} {zs : List Int} (h : Left T zs) {k : Nat} (hk : k < T.zs.length) (h0 : 0 ≤ nth zs k) : Left T (shiftZ T zs k).2 := by
  obtain ⟨h1, h2⟩ := hole_start h hk h0
  exact shift_left T _ _ _ _ h1 h2 (Nat.lt_succ_self _)

structure ShiftSays (T : Tab) (key : Int) (k : Nat) : Prop where
  plain : plainB T = true
  val : validB T = true
  lt : k < T.zs.length
  find : findOf T key = k
  here : nth T.zs k = key
  key0 : 0 ≤ key ∧ key ≤ 99
  hole : Hole T (T.zs.set k (-1)) k 1
  left : Left T (shiftZ T T.zs k).2
theorem shift_says {T : Tab} {key : Int} (h : shiftOk T key = true) : ∃ k : Nat, ShiftSays T key k := by
  simp only [shiftOk, Bool.and_eq_true, decide_eq_true_eq] at h
  obtain ⟨hf, hp⟩ := h
  have hL := plain_left hp
  obtain ⟨_, hv, _⟩ := plain_parts hp
  obtain ⟨⟨l1, _⟩, _⟩ := valid_facts hv
  have hf0 := hf
  unfold findOf at hf
  split at hf
  · rename_i hvk
    simp only [Bool.and_eq_true] at hvk
    have hk := inB_iff.1 hvk.2
    obtain ⟨e1, e2⟩ := find_yes hf
    have hlt := lastOf_lt (T := T) l1 key
    have hfo : findOf T key = lastOf T key := by unfold findOf; rw [if_pos (by simp [hvk]), e1]
    have h0 : 0 ≤ nth T.zs (lastOf T key) := by rw [e2]; exact hk.1
    exact ⟨lastOf T key, hp, hv, hlt, hfo, e2, hk, (hole_start hL hlt h0).1, shiftZ_left hL hlt h0⟩
  · omega

/-- One key of a list. -/
def stepZ (T : Tab) (zs : List Int) (x : Int) : List Int := if 0 ≤ findI (tab T zs) x then (shiftZ T zs (findI (tab T zs) x).toNat).2 else zs
def shiftsTo (T : Tab) (ks : List Int) : Nat → List Int
  | 0 => T.zs
  | j + 1 => stepZ T (shiftsTo T ks j) (nth ks j)
def shiftsOk (T : Tab) (ks : List Int) : Bool := plainB T && keysB ks
def shiftsT (T : Tab) (ks : List Int) : Tab := if shiftsOk T ks then tab T (shiftsTo T ks ks.length) else ⟨0, 0, []⟩

/-- A key that is found lies where it is found. -/
theorem left_find {T : Tab} {zs : List Int} (h : Left T zs) {x : Int} (hf : 0 ≤ findI (tab T zs) x) : (findI (tab T zs) x).toNat < T.zs.length ∧ nth zs (findI (tab T zs) x).toNat = x ∧ ((findI (tab T zs) x).toNat : Int) = findI (tab T zs) x := by
  have l1 : 1 ≤ (tab T zs).zs.length := (valid_facts h.val).1.1
  obtain ⟨e1, e2⟩ := find_yes hf
  have hlt := lastOf_lt (T := tab T zs) l1 x
  have hl : (tab T zs).zs.length = T.zs.length := h.len
  rw [e1]
  rw [Int.toNat_natCast]
  exact ⟨by rw [← hl]; exact hlt, e2, rfl⟩
theorem stepZ_left {T : Tab} {zs : List Int} (h : Left T zs) {x : Int} (h0 : 0 ≤ x) : Left T (stepZ T zs x) := by
  unfold stepZ
  split
  · rename_i hf
    obtain ⟨a, b, _⟩ := left_find h hf
    exact shiftZ_left h a (by rw [b]; exact h0)
  · exact h
theorem keysB_nth {ks : List Int} (h : keysB ks = true) {j : Nat} (hj : j < ks.length) : 0 ≤ nth ks j ∧ nth ks j ≤ 99 := by
  simp only [keysB, Bool.and_eq_true, List.all_eq_true] at h
  exact inB_iff.1 (h.2 _ (nth_mem hj))
theorem shiftsTo_left {T : Tab} {ks : List Int} (h : shiftsOk T ks = true) : ∀ j, j ≤ ks.length → Left T (shiftsTo T ks j) := by
  simp only [shiftsOk, Bool.and_eq_true] at h
  intro j
  induction j with
  | zero => intro _; exact plain_left h.1
  | succ j ih => intro hj; exact stepZ_left (ih (by omega)) (keysB_nth h.2 (by omega)).1

/-- A key that was put last is shifted away, and nothing else. -/
theorem shift_back {T : Tab} {key : Int} (h : putOk T key = true) (ht : ∀ i, i < T.zs.length → nth T.zs i ≠ -2) :
    shiftOk (putT T key) key = true ∧ shiftL (putT T key) key = [] ∧ shiftT (putT T key) key = T := by
  obtain ⟨hp, hs⟩ := putOk_parts h
  have P := put_says h
  have e : putT T key = putAt T (placeI T key).toNat key := by simp [putT, h]
  generalize (placeI T key).toNat = k at P e
  rw [e]
  have hL : Left T T.zs := plain_left (by simp only [plainB, hs, Bool.true_and, Bool.not_eq_true', decide_eq_false_iff_not]; intro hm; obtain ⟨i, hi, e⟩ := mem_nth hm; exact ht i hi e)
  have hlow : nth T.zs k = -1 := by
    have h1 := P.low
    have h2 := ht k P.lt
    have h3 := (valid_slot P.val P.lt).1
    omega
  have hfo : findOf (putAt T k key) key = k := by
    unfold findOf
    rw [if_pos (by rw [P.val2, inB_true P.key0]; rfl), P.find2]
  have hpl : plainB (putAt T k key) = true := by
    simp only [plainB, P.sound2, Bool.true_and, Bool.not_eq_true', decide_eq_false_iff_not]
    intro hm
    obtain ⟨i, hi, e⟩ := mem_nth hm
    rw [putAt_len] at hi
    have : nth (putAt T k key).zs i = if i = k then key else nth T.zs i := nth_set P.lt _ _
    rw [this] at e
    split at e
    · have := P.key0; omega
    · exact ht i hi e
  have hok : shiftOk (putAt T k key) key = true := by
    simp only [shiftOk, hpl, hfo, Bool.and_true, decide_eq_true_eq]; omega
  have hset : (putAt T k key).zs.set k (-1) = T.zs := by
    refine nth_ext (by simp [putAt]) fun i hi => ?_
    simp only [putAt, List.set_set]
    rw [nth_set P.lt]
    split
    · rename_i e; subst e; exact hlow.symm
    · rfl
  have hH : Hole (putAt T k key) T.zs k 1 := by
    have hlp : 1 ≤ T.zs.length := (valid_facts P.val).1.1
    exact ⟨P.val, by simp [putAt], by rw [putAt_len]; exact P.lt, hlow, Nat.le_refl _, by rw [putAt_len]; exact hlp, fun i hi => ht i (by rwa [putAt_len] at hi)⟩
  have hL2 : Left (putAt T k key) T.zs := by
    refine ⟨P.val, by simp [putAt], fun i hi => ht i (by rwa [putAt_len] at hi), fun s hs h0 m hm => ?_⟩
    unfold awN at hm
    rw [putAt_len] at hs hm ⊢
    rw [putAt_home] at hm ⊢
    exact hL.way s hs h0 m hm
  have hz : shiftZ (putAt T k key) (putAt T k key).zs k = ([], T.zs) := by
    unfold shiftZ shiftR
    rw [hset]
    exact shift_none _ _ _ _ _ hH hL2 (Nat.lt_succ_self _)
  refine ⟨hok, ?_, ?_⟩
  · unfold shiftL
    rw [if_pos hok, hfo]
    show (shiftZ _ _ k).1 = _
    rw [hz]
  · unfold shiftT
    rw [if_pos hok, hfo]
    show tab _ (shiftZ _ _ k).2 = _
    rw [hz]
    rfl

end Go.Proofs.Ytpncpeokdcolpaa

namespace Go.Proofs.Ytpncpeokdcolpaa

/-- The key of slot s stands ahead of another one that has come d slots far. -/
def aheadB (T : Tab) (s : Nat) (key : Int) (d : Nat) : Bool := decide ((d : Int) < awayOf T s) || ((awayOf T s == (d : Int)) && decide (nth T.zs s < key))
/-- As the program asks it. -/
theorem ahead_if (T : Tab) (s : Nat) (key : Int) (d : Nat) : aheadB T s key d = if awayOf T s = (d : Int) then decide (nth T.zs s < key) else decide (awayOf T s > (d : Int)) := by
  unfold aheadB
  by_cases h : awayOf T s = (d : Int)
  · rw [if_pos h, h]; simp
  · rw [if_neg h, beq_eq_false_iff_ne.2 h]; simp
theorem ahead_free {T : Tab} {s : Nat} {key : Int} {d : Nat} (h : awayOf T s < 0) : aheadB T s key d = false := by
  unfold aheadB
  rw [beq_eq_false_iff_ne.2 (by omega)]
  simp; omega

/-- How many slots a key goes past. -/
def passN (T : Tab) (key : Int) : Nat := goN (fun d => !aheadB T (stepS T (homeN T key) d) key d) T.zs.length

/-- The key of slot i has passed all slots ahead of it rightly. -/
def wayB (T : Tab) (i : Nat) (j : Nat) : Bool := (List.range j).all fun d => aheadB T (stepS T (homeN T (nth T.zs i)) d) (nth T.zs i) d
def slotB (T : Tab) (i : Nat) : Bool := decide (nth T.zs i < 0) || wayB T i (awN T T.zs i)
def fairTo (T : Tab) (k : Nat) : Bool := (List.range k).all fun i => slotB T i
def fairB (T : Tab) : Bool := plainB T && decide (-1 ∈ T.zs) && fairTo T T.zs.length

theorem wayB_iff {T : Tab} {i j : Nat} : wayB T i j = true ↔ ∀ d, d < j → aheadB T (stepS T (homeN T (nth T.zs i)) d) (nth T.zs i) d = true := by
  simp [wayB, List.all_eq_true, List.mem_range]
theorem fairTo_iff {T : Tab} {k : Nat} : fairTo T k = true ↔ ∀ i, i < k → slotB T i = true := by
  simp [fairTo, List.all_eq_true, List.mem_range]
theorem fairTo_succ (T : Tab) (k : Nat) : fairTo T (k + 1) = (fairTo T k && slotB T k) := by
  simp [fairTo, List.range_succ]
theorem wayB_succ (T : Tab) (i j : Nat) : wayB T i (j + 1) = (wayB T i j && aheadB T (stepS T (homeN T (nth T.zs i)) j) (nth T.zs i) j) := by
  simp [wayB, List.range_succ]
theorem fair_not {T : Tab} {k : Nat} (hk : k < T.zs.length) (h : slotB T k = false) : fairTo T T.zs.length = false := by
  cases hf : fairTo T T.zs.length
  · rfl
  · have := fairTo_iff.1 hf k hk
    rw [h] at this; cases this
theorem way_not {T : Tab} {i d j : Nat} (hd : d < j) (h : aheadB T (stepS T (homeN T (nth T.zs i)) d) (nth T.zs i) d = false) : wayB T i j = false := by
  cases hf : wayB T i j
  · rfl
  · have := wayB_iff.1 hf d hd
    rw [h] at this; cases this

/-- Where slot i holds a key it is the one that lies so far from its home. -/
theorem away_self {T : Tab} (hv : validB T = true) {i : Nat} (hi : i < T.zs.length) (h0 : 0 ≤ nth T.zs i) : awayOf T i = awN T T.zs i ∧ awN T T.zs i < T.zs.length ∧ stepS T (homeN T (nth T.zs i)) (awN T T.zs i) = i := by
  have hh := homeN_lt hv (nth T.zs i)
  refine ⟨awN_of (T := T) hv rfl hi h0, dst_lt hh hi, ?_⟩
  have hd := dst_lt hh hi
  rw [fwd_step hh (by unfold awN; omega)]
  exact fwd_dst hh hi
/-- A key goes past just the slots ahead of its own. -/
theorem pass_self {T : Tab} (hv : validB T = true) {i : Nat} (hi : i < T.zs.length) (h0 : 0 ≤ nth T.zs i) : (passN T (nth T.zs i) = awN T T.zs i) ↔ slotB T i = true := by
  obtain ⟨e1, e2, e3⟩ := away_self hv hi h0
  have hn : ¬ nth T.zs i < 0 := by omega
  have hself : aheadB T (stepS T (homeN T (nth T.zs i)) (awN T T.zs i)) (nth T.zs i) (awN T T.zs i) = false := by
    rw [e3]; unfold aheadB; rw [e1]; simp
  simp only [slotB, hn, decide_false, Bool.false_or]
  rw [wayB_iff]
  unfold passN
  constructor
  · intro h d hd
    rw [← h] at hd
    have := goN_free hd
    simpa using this
  · intro h
    exact goN_eq e2 (fun d hd => by simp [h d hd]) (by simp [hself])

theorem fair_parts {T : Tab} (h : fairB T = true) : plainB T = true ∧ -1 ∈ T.zs ∧ fairTo T T.zs.length = true := by
  simp only [fairB, Bool.and_eq_true, decide_eq_true_eq] at h
  exact ⟨h.1.1, h.1.2, h.2⟩
/-- Some slot is free: somewhere on the way around from any home. -/
theorem free_step {T : Tab} {h : Nat} (hh : h < T.zs.length) (hf : -1 ∈ T.zs) : ∃ d, d < T.zs.length ∧ nth T.zs (stepS T h d) = -1 := by
  obtain ⟨i, hi, e⟩ := mem_nth hf
  obtain ⟨a1, a2⟩ := step_away hh hi
  exact ⟨_, a2, by rw [a1]; exact e⟩
theorem free_away {T : Tab} {i : Nat} (h : nth T.zs i < 0) : awayOf T i = -1 := (awayOf_no (.inr (.inr (by rw [Int.toNat_natCast]; exact h)))).symm
/-- In a table with a free slot no key goes past all slots. -/
theorem pass_lt {T : Tab} (hv : validB T = true) (hf : -1 ∈ T.zs) (key : Int) : passN T key < T.zs.length := by
  obtain ⟨d, hd, e⟩ := free_step (homeN_lt hv key) hf
  refine Nat.lt_of_not_le fun hn => ?_
  have hle := goN_le (fun d => !aheadB T (stepS T (homeN T key) d) key d) T.zs.length
  unfold passN at hn
  have := goN_free (p := fun d => !aheadB T (stepS T (homeN T key) d) key d) (n := T.zs.length) (j := d) (by omega)
  rw [ahead_free (by rw [free_away (by omega)]; omega)] at this
  simp at this
/-- What the model asks at each slot: free, the key itself, or not ahead: is just the last of these. -/
theorem stop_same {T : Tab} (hv : validB T = true) {key : Int} (h0 : 0 ≤ key) {d : Nat} (hd : d < T.zs.length) :
    (nth T.zs (stepS T (homeN T key) d) = -1 ∨ nth T.zs (stepS T (homeN T key) d) = key) → aheadB T (stepS T (homeN T key) d) key d = false := by
  have hh := homeN_lt hv key
  rintro (h | h)
  · exact ahead_free (by rw [free_away (by omega)]; omega)
  · have := away_step hv hd h h0
    unfold aheadB
    rw [this, h]; simp

def fairVis (T : Tab) (key : Int) : Int := if fairB T && inB key 0 99 then (passN T key : Int) + 1 else -1

end Go.Proofs.Ytpncpeokdcolpaa

namespace Go.Proofs.Ytpncpeokdcolpaa

/-- The slot in front of a slot. -/
def prevS (T : Tab) (i : Nat) : Nat := (i + T.zs.length - 1) % T.zs.length
theorem prevS_lt {T : Tab} (hn : 1 ≤ T.zs.length) (i : Nat) : prevS T i < T.zs.length := Nat.mod_lt _ (by omega)
theorem prev_cast {T : Tab} (hn : 1 ≤ T.zs.length) (i : Nat) : ((i : Int) + (T.zs.length : Int) - 1) % (T.zs.length : Int) = (prevS T i : Int) := by
  have : ((i : Int) + (T.zs.length : Int) - 1) = ((i + T.zs.length - 1 : Nat) : Int) := by omega
  rw [this, prevS, Int.natCast_emod]

/-- A run opens at a slot. -/
def startB (T : Tab) (i : Nat) : Bool := (nth T.zs i != -1) && !(decide (1 < T.zs.length) && (nth T.zs (prevS T i) != -1))
/-- How many slots in a row are not free, from a slot on. -/
def sizeFrom (T : Tab) (i : Nat) : Nat := goN (fun j => nth T.zs (stepS T i j) == -1) T.zs.length
def runsTo (T : Tab) (k : Nat) : List (Nat × Nat) := ((List.range k).filter (startB T)).map fun i => (i, sizeFrom T i)
/-- The runs of a valid table. -/
def runsL (T : Tab) : List (Nat × Nat) := if (runsTo T T.zs.length).length = 0 ∧ nth T.zs 0 ≠ -1 then [(0, T.zs.length)] else runsTo T T.zs.length

theorem runsTo_yes {T : Tab} {k : Nat} (h : startB T k = true) : runsTo T (k + 1) = runsTo T k ++ [(k, sizeFrom T k)] := by
  simp [runsTo, List.range_succ, List.filter_append, h]
theorem runsTo_no {T : Tab} {k : Nat} (h : startB T k = false) : runsTo T (k + 1) = runsTo T k := by
  simp [runsTo, List.range_succ, List.filter_append, h]
theorem runsTo_len (T : Tab) (k : Nat) : (runsTo T k).length ≤ k := by
  simp only [runsTo, List.length_map]
  exact Nat.le_trans (List.length_filter_le _ _) (by simp)

end Go.Proofs.Ytpncpeokdcolpaa

namespace Go.Proofs.Ytpncpeokdcolpaa

/-- How many are counted up to the first that stops, this one included, or all. -/
def cntN (p : Nat → Bool) (n : Nat) : Nat := min (goN p n + 1) n
theorem cntN_stop {p : Nat → Bool} {n i : Nat} (hi : i < n) (hf : ∀ j, j < i → p j = false) (hp : p i = true) : cntN p n = i + 1 := by
  unfold cntN
  rw [goN_eq hi hf hp]
  omega
theorem cntN_all {p : Nat → Bool} {n : Nat} (hf : ∀ j, j < n → p j = false) : cntN p n = n := by
  unfold cntN
  rw [goN_all hf]
  omega
theorem cntN_bounds {p : Nat → Bool} {n : Nat} (hn : 1 ≤ n) : 1 ≤ cntN p n ∧ cntN p n ≤ n := by
  unfold cntN
  omega
theorem cntN_free {p : Nat → Bool} {n i : Nat} (hi : i + 1 < cntN p n) : p i = false := goN_free (n := n) (by unfold cntN at hi; omega)
theorem cntN_last (p : Nat → Bool) (n : Nat) : p (cntN p n - 1) = true ∨ (cntN p n = n ∧ ∀ j, j < n → p j = false) := by
  by_cases h : goN p n < n
  · left
    have := goN_stop h
    rw [show cntN p n - 1 = goN p n by unfold cntN; omega]
    exact this
  · right
    have := goN_le p n
    exact ⟨by unfold cntN; omega, fun j hj => goN_free (n := n) (by omega)⟩

/-- A slot at which one stops who looks for no key in particular. -/
def freeAt (T : Tab) (h d : Nat) : Bool := nth T.zs (stepS T h d) == -1
def missN (T : Tab) (h : Nat) : Nat := cntN (freeAt T h) T.zs.length
def missI (T : Tab) (home : Int) : Int := if validB T && inB home 0 (T.zs.length - 1) then missN T home.toNat else -1
/-- What is visited from the first k homes on. -/
def missTo (T : Tab) (k : Nat) : Nat := ((List.range k).map (missN T)).sum
theorem missTo_succ (T : Tab) (k : Nat) : missTo T (k + 1) = missTo T k + missN T k := by
  simp [missTo, List.range_succ]
theorem missTo_le {T : Tab} (l1 : 1 ≤ T.zs.length) (k : Nat) : missTo T k ≤ k * T.zs.length := by
  induction k with
  | zero => simp [missTo]
  | succ k ih =>
    have := (cntN_bounds (p := freeAt T k) l1).2
    rw [missTo_succ, Nat.succ_mul]
    unfold missN
    omega
def missAll (T : Tab) : Int := if validB T then missTo T T.zs.length else -1
/-- The first of the first k homes from which most are visited. -/
def worstTo (T : Tab) : Nat → Nat
  | 0 => 0
  | k + 1 => if missN T (worstTo T k) < missN T k then k else worstTo T k
theorem worstTo_le (T : Tab) (k : Nat) : worstTo T k ≤ k := by
  induction k with
  | zero => exact Nat.le_refl _
  | succ k ih =>
    unfold worstTo
    split <;> omega
theorem worstTo_lt {T : Tab} {k : Nat} (hk : 1 ≤ k) : worstTo T k < k := by
  induction k with
  | zero => omega
  | succ k ih =>
    unfold worstTo
    split
    · omega
    · have := worstTo_le T k
      omega
def worstI (T : Tab) : Int := if validB T then worstTo T T.zs.length else -1
/-- What is visited to find some keys. -/
def hitsL (T : Tab) (l : List Int) : Int := (l.map (visOf T)).sum
theorem hitsL_snoc (T : Tab) (l : List Int) (x : Int) : hitsL T (l ++ [x]) = hitsL T l + visOf T x := by
  simp [hitsL]
theorem hitsL_perm {T : Tab} {l m : List Int} (h : l.Perm m) : hitsL T l = hitsL T m := by
  unfold hitsL
  induction h with
  | nil => rfl
  | cons x _ ih => simp [ih]
  | swap x y l => simp; omega
  | trans _ _ a b => exact a.trans b
def hitI (T : Tab) : Int := if soundB T then hitsL T (sortU T.zs) else -1
theorem visOf_bounds {T : Tab} (hv : validB T = true) {key : Int} (hk : inB key 0 99 = true) : 1 ≤ visOf T key ∧ visOf T key ≤ 16 := by
  obtain ⟨⟨l1, l2⟩, _⟩ := valid_facts hv
  have := visN_bounds l1 key (homeN T key)
  simp [visOf, hv, hk]
  omega
theorem hitsL_bounds {T : Tab} (hv : validB T = true) {l : List Int} (hl : ∀ x ∈ l, inB x 0 99 = true) : 0 ≤ hitsL T l ∧ hitsL T l ≤ 16 * l.length := by
  induction l with
  | nil => simp [hitsL]
  | cons x l ih =>
    have h1 := ih fun y hy => hl y (List.mem_cons_of_mem _ hy)
    have h2 := visOf_bounds hv (hl x (List.mem_cons_self ..))
    simp only [hitsL, List.map_cons, List.sum_cons, List.length_cons] at h1 ⊢
    omega

/-- A slot at which one stops who looks in a fair table for a key greater than all with a home. -/
def nearAt (T : Tab) (h d : Nat) : Bool := decide (awayOf T (stepS T h d : Nat) < (d : Int))
def fmissN (T : Tab) (h : Nat) : Nat := cntN (nearAt T h) T.zs.length
def fmissI (T : Tab) (home : Int) : Int := if fairB T && inB home 0 (T.zs.length - 1) then fmissN T home.toNat else -1

end Go.Proofs.Ytpncpeokdcolpaa

namespace Go.Proofs.Ytpncpeokdcolpaa

/-- The first slot of some steps that is free or a tomb, or -1. -/
def lookPl (T : Tab) (h : Nat) (pre : List Nat) : Int := ((pre.find? fun i => decide (nth T.zs (stepS T h i) < 0)).map fun i => (stepS T h i : Int)).getD (-1)
theorem lookPl_nil (T : Tab) (h : Nat) : lookPl T h [] = -1 := rfl
theorem lookPl_keep {T : Tab} {h : Nat} {pre : List Nat} {i : Nat} (hc : 0 ≤ lookPl T h pre ∨ 0 ≤ nth T.zs (stepS T h i)) : lookPl T h (pre ++ [i]) = lookPl T h pre := by
  unfold lookPl at *
  rw [List.find?_append]
  cases hf : pre.find? fun i => decide (nth T.zs (stepS T h i) < 0) with
  | some j => simp
  | none =>
    rcases hc with hc | hc
    · rw [hf] at hc; simp at hc
    · have : ¬ nth T.zs (stepS T h i) < 0 := by omega
      simp [this]
theorem lookPl_new {T : Tab} {h : Nat} {pre : List Nat} {i : Nat} (h1 : lookPl T h pre < 0) (h2 : nth T.zs (stepS T h i) < 0) : lookPl T h (pre ++ [i]) = stepS T h i := by
  unfold lookPl at *
  rw [List.find?_append]
  cases hf : pre.find? fun i => decide (nth T.zs (stepS T h i) < 0) with
  | some j => rw [hf] at h1; simp at h1; omega
  | none => simp [h2]
theorem lookPl_bounds {T : Tab} (hn : 1 ≤ T.zs.length) (h : Nat) (pre : List Nat) : -1 ≤ lookPl T h pre ∧ lookPl T h pre < T.zs.length := by
  unfold lookPl
  cases pre.find? fun i => decide (nth T.zs (stepS T h i) < 0) with
  | some j => have := stepS_lt hn h j; simp; omega
  | none => simp; omega
theorem firstLow_way (T : Tab) (h k : Nat) : firstLow T.zs (wayTo T h k) = lookPl T h (List.range k) := by
  unfold firstLow wayTo lookPl
  rw [List.find?_map]
  congr 2

/-- No step of these stops. -/
def Free' (T : Tab) (key : Int) (h : Nat) (pre : List Nat) : Prop := ∀ i, i ∈ pre → stopAt T key h i = false
theorem Free'.nil (T : Tab) (key : Int) (h : Nat) : Free' T key h [] := fun _ h => (by cases h)
theorem Free'.snoc {T : Tab} {key : Int} {h : Nat} {pre : List Nat} {i : Nat} (hp : Free' T key h pre) (hi : stopAt T key h i = false) : Free' T key h (pre ++ [i]) := by
  intro j hj
  rcases List.mem_append.1 hj with h1 | h1
  · exact hp j h1
  · obtain rfl := List.mem_singleton.1 h1; exact hi

theorem range_snoc {k : Nat} {pre : List Nat} {x : Nat} (h : List.range k = pre ++ [x]) : k = x + 1 ∧ pre = List.range x := by
  cases k with
  | zero => simp at h
  | succ k =>
    rw [List.range_succ] at h
    obtain ⟨h1, h2⟩ := List.append_inj' h rfl
    simp at h2
    subst h2
    exact ⟨rfl, h1.symm⟩

/-- What the search has found where it stops at the last of some steps. -/
theorem look_stop {T : Tab} {key : Int} {h k x : Nat} {pre : List Nat} (hh : homeN T key = h) (hk : k ≤ T.zs.length) (he : List.range k = pre ++ [x]) (hf : Free' T key h pre) (hs : stopAt T key h x = true) :
    visN T key (homeN T key) = (pre ++ [x]).length ∧ lastOf T key = stepS T h x ∧ wayOf T key = wayTo T h k ∧ List.range k = pre ++ [x] := by
  obtain ⟨rfl, rfl⟩ := range_snoc he
  have hv : visN T key h = x + 1 := visN_stop (by omega) (fun j hj => hf j (List.mem_range.2 hj)) hs
  subst hh
  refine ⟨by rw [hv]; simp, by rw [lastOf, hv]; rfl, by rw [wayOf, hv], he⟩
theorem look_found {T : Tab} {key : Int} {h k x : Nat} {pre : List Nat} (hh : homeN T key = h) (hk : k ≤ T.zs.length) (he : List.range k = pre ++ [x]) (hf : Free' T key h pre) (hs : nth T.zs (stepS T h x) = key) :
    visN T key (homeN T key) = (pre ++ [x]).length ∧ findI T key = stepS T h x := by
  obtain ⟨h1, h2, _, _⟩ := look_stop hh hk he hf (by simp [stopAt, hs])
  exact ⟨h1, by rw [findI, h2, if_pos hs]⟩
theorem look_free {T : Tab} {key : Int} {h k x : Nat} {pre : List Nat} (h0 : 0 ≤ key) (hh : homeN T key = h) (hk : k ≤ T.zs.length) (he : List.range k = pre ++ [x]) (hf : Free' T key h pre) (hs : nth T.zs (stepS T h x) = -1) :
    visN T key (homeN T key) = (pre ++ [x]).length ∧ findI T key = -1 ∧ firstLow T.zs (wayOf T key) = lookPl T h (pre ++ [x]) := by
  obtain ⟨h1, h2, h3, h4⟩ := look_stop hh hk he hf (by simp [stopAt, hs])
  refine ⟨h1, by rw [findI, h2, hs, if_neg (by omega)], ?_⟩
  rw [h3, firstLow_way, h4]
theorem look_none {T : Tab} {key : Int} {h : Nat} {pre : List Nat} (hn : 1 ≤ T.zs.length) (hh : homeN T key = h) (he : pre = List.range T.zs.length) (hf : Free' T key h pre) :
    visN T key (homeN T key) = pre.length ∧ findI T key = -1 ∧ firstLow T.zs (wayOf T key) = lookPl T h pre := by
  subst he
  have hv : visN T key h = T.zs.length := visN_all fun j hj => hf j (List.mem_range.2 hj)
  subst hh
  refine ⟨by rw [hv]; simp, ?_, by rw [wayOf, hv, firstLow_way]⟩
  have h2 : lastOf T key = stepS T (homeN T key) (T.zs.length - 1) := by rw [lastOf, hv]
  have := hf (T.zs.length - 1) (List.mem_range.2 (by omega))
  simp only [stopAt, Bool.or_eq_false_iff, beq_eq_false_iff_ne, ne_eq] at this
  rw [findI, h2, if_neg this.2]

end Go.Proofs.Ytpncpeokdcolpaa

namespace Go.Proofs.Ytpncpeokdcolpaa

theorem prevS_pos {T : Tab} {i : Nat} (h0 : 0 < i) (hi : i < T.zs.length) : prevS T i = i - 1 := by
  unfold prevS
  rw [show i + T.zs.length - 1 = i - 1 + T.zs.length by omega, Nat.add_mod_right, Nat.mod_eq_of_lt (by omega)]
theorem prevS_zero {T : Tab} (hn : 1 ≤ T.zs.length) : prevS T 0 = T.zs.length - 1 := by
  unfold prevS
  rw [Nat.zero_add, Nat.mod_eq_of_lt (by omega)]
theorem prev_tmod {T : Tab} (hn : 1 ≤ T.zs.length) (i : Nat) : ((i : Int) - 1) % (T.zs.length : Int) = (prevS T i : Int) := by
  rw [← prev_cast hn i, show (i : Int) + T.zs.length - 1 = (i : Int) - 1 + T.zs.length by omega, Int.add_emod_right]

theorem runsTo_nil {T : Tab} {k : Nat} (h : ∀ i, i < k → startB T i = false) : runsTo T k = [] := by
  induction k with
  | zero => rfl
  | succ k ih => rw [runsTo_no (h k (by omega))]; exact ih fun i hi => h i (by omega)
theorem runsTo_none {T : Tab} {k : Nat} (h : runsTo T k = []) : ∀ i, i < k → startB T i = false := by
  simp only [runsTo, List.map_eq_nil_iff, List.filter_eq_nil_iff, List.mem_range] at h
  intro i hi
  simpa using h i hi

/-- No slot is free: all are one run. -/
theorem runs_full {T : Tab} (hn : 1 ≤ T.zs.length) (h : ∀ i, i < T.zs.length → nth T.zs i ≠ -1) : runsL T = [(0, T.zs.length)] := by
  have h0 := h 0 (by omega)
  by_cases h1 : T.zs.length = 1
  · have hs : startB T 0 = true := by simp [startB, h1, h0]
    have e : runsTo T T.zs.length = [(0, sizeFrom T 0)] := by rw [h1, runsTo_yes hs]; rfl
    have hz : sizeFrom T 0 = T.zs.length := by
      refine goN_all fun j hj => ?_
      have := h (stepS T 0 j) (stepS_lt hn 0 j)
      simpa using this
    rw [runsL, if_neg (by rw [e]; simp), e, hz]
  · have e : runsTo T T.zs.length = [] := runsTo_nil fun i hi => by
      have := h _ (prevS_lt hn i)
      simp [startB, show 1 < T.zs.length by omega, this]
    rw [runsL, if_pos ⟨by rw [e]; rfl, h0⟩]

/-- Some slot is free: the runs open where one is not and the one ahead of it is. -/
theorem runs_some {T : Tab} (hn : 1 ≤ T.zs.length) {i : Nat} (hi : i < T.zs.length) (h : nth T.zs i = -1) : runsL T = runsTo T T.zs.length := by
  rw [runsL, if_neg]
  rintro ⟨h1, h0⟩
  have hs := runsTo_none (List.eq_nil_of_length_eq_zero h1)
  have back : ∀ j, j < T.zs.length → nth T.zs j ≠ -1 → nth T.zs (prevS T j) ≠ -1 := by
    intro j hj h2
    have := hs j hj
    have hb : (nth T.zs j != -1) = true := by simpa using h2
    rw [startB, hb, Bool.true_and, Bool.not_eq_false', Bool.and_eq_true] at this
    simpa using this.2
  have all : ∀ d, d < T.zs.length → nth T.zs (T.zs.length - 1 - d) ≠ -1 := by
    intro d
    induction d with
    | zero =>
      intro _
      have := back 0 (by omega) h0
      rwa [prevS_zero hn] at this
    | succ d ih =>
      intro hd
      have := back _ (by omega) (ih (by omega))
      rw [prevS_pos (by omega) (by omega)] at this
      rwa [show T.zs.length - 1 - (d + 1) = T.zs.length - 1 - d - 1 by omega]
  have := all (T.zs.length - 1 - i) (by omega)
  rw [show T.zs.length - 1 - (T.zs.length - 1 - i) = i by omega] at this
  exact this h

/-- A run opens where the program says it does: a slot that is not free behind one that is. -/
theorem startB_free {T : Tab} {j : Nat} (hn : 1 ≤ T.zs.length) (hj : j < T.zs.length) (h : nth T.zs j = -1) {i : Nat} (hi : i < T.zs.length) : startB T i = ((nth T.zs i != -1) && !(nth T.zs (prevS T i) != -1)) := by
  unfold startB
  by_cases h1 : 1 < T.zs.length
  · simp [h1]
  · obtain rfl : i = j := by omega
    simp [h]

/-- All of these steps come to slots that are not free. -/
def Taken' (T : Tab) (h : Nat) (pre : List Nat) : Prop := ∀ i, i ∈ pre → nth T.zs (stepS T h i) ≠ -1
theorem Taken'.nil (T : Tab) (h : Nat) : Taken' T h [] := fun _ h => (by cases h)
theorem Taken'.snoc {T : Tab} {h : Nat} {pre : List Nat} {i : Nat} (hp : Taken' T h pre) (hi : nth T.zs (stepS T h i) ≠ -1) : Taken' T h (pre ++ [i]) := by
  intro j hj
  rcases List.mem_append.1 hj with h1 | h1
  · exact hp j h1
  · obtain rfl := List.mem_singleton.1 h1; exact hi
theorem size_stop {T : Tab} {h k x : Nat} {pre : List Nat} (hk : k ≤ T.zs.length) (he : List.range k = pre ++ [x]) (hf : Taken' T h pre) (hs : nth T.zs (stepS T h x) = -1) : sizeFrom T h = pre.length := by
  obtain ⟨rfl, rfl⟩ := range_snoc he
  rw [sizeFrom, goN_eq (i := x) (by omega) (fun j hj => ?_) (by simp [hs])]
  · simp
  · have := hf j (List.mem_range.2 hj)
    simpa using this
theorem taken_all {T : Tab} (hn : 1 ≤ T.zs.length) {h i : Nat} (hi : i < T.zs.length) (hh : h < T.zs.length) (hf : Taken' T h (List.range T.zs.length)) : nth T.zs i ≠ -1 := by
  have := hf ((i + T.zs.length - h) % T.zs.length) (List.mem_range.2 (Nat.mod_lt _ (by omega)))
  rwa [stepS, Nat.add_mod_mod, show h + (i + T.zs.length - h) = i + T.zs.length by omega, Nat.add_mod_right, Nat.mod_eq_of_lt hi] at this

end Go.Proofs.Ytpncpeokdcolpaa

namespace Go.Proofs.Ytpncpeokdcolpaa

/-- The slot behind a slot. -/
def nextS (T : Tab) (i : Nat) : Nat := stepS T i 1
theorem nextS_eq {T : Tab} {i : Nat} (hi : i < T.zs.length) : nextS T i = if i + 1 < T.zs.length then i + 1 else 0 := by
  unfold nextS stepS
  by_cases h : i + 1 < T.zs.length
  · rw [if_pos h, Nat.mod_eq_of_lt h]
  · rw [if_neg h, show i + 1 = T.zs.length by omega, Nat.mod_self]
theorem prevS_eq {T : Tab} {i : Nat} (hi : i < T.zs.length) : prevS T i = if i = 0 then T.zs.length - 1 else i - 1 := by
  by_cases h : i = 0
  · subst h; rw [if_pos rfl, prevS_zero (by omega)]
  · rw [if_neg h, prevS_pos (by omega) hi]
theorem prev_next {T : Tab} {i : Nat} (hi : i < T.zs.length) : prevS T (nextS T i) = i := by
  have h1 := nextS_eq hi
  by_cases h : i + 1 < T.zs.length
  · rw [if_pos h] at h1
    rw [h1, prevS_eq h, if_neg (by omega)]; omega
  · rw [if_neg h] at h1
    rw [h1, prevS_eq (by omega), if_pos rfl]; omega
theorem step_eq {T : Tab} {h i : Nat} (hh : h < T.zs.length) (hi : i ≤ T.zs.length) : stepS T h i = if h + i < T.zs.length then h + i else h + i - T.zs.length := nadd hh hi
theorem step_next {T : Tab} {i j : Nat} (hi : i < T.zs.length) (hj : j + 1 ≤ T.zs.length) : stepS T (nextS T i) j = stepS T i (j + 1) := by
  have h1 := nextS_eq hi
  by_cases h : i + 1 < T.zs.length
  · rw [if_pos h] at h1
    rw [h1, step_eq h (by omega), step_eq hi hj]
    split <;> split <;> omega
  · rw [if_neg h] at h1
    rw [h1, step_eq (by omega) (by omega), step_eq hi hj]
    split <;> split <;> omega

def sumTo (f : Nat → Nat) : Nat → Nat
  | 0 => 0
  | k + 1 => sumTo f k + f k
theorem sumTo_add (f g : Nat → Nat) (k : Nat) : sumTo (fun i => f i + g i) k = sumTo f k + sumTo g k := by
  induction k with
  | zero => rfl
  | succ k ih => simp only [sumTo, ih]; omega
theorem sumTo_congr {f g : Nat → Nat} {k : Nat} (h : ∀ i, i < k → f i = g i) : sumTo f k = sumTo g k := by
  induction k with
  | zero => rfl
  | succ k ih => simp only [sumTo]; rw [ih fun i hi => h i (by omega), h k (by omega)]
theorem sumTo_le {f g : Nat → Nat} {k : Nat} (h : ∀ i, i < k → f i ≤ g i) : sumTo f k ≤ sumTo g k := by
  induction k with
  | zero => exact Nat.le_refl _
  | succ k ih => simp only [sumTo]; have := ih fun i hi => h i (by omega); have := h k (by omega); omega
theorem sumTo_turn {T : Tab} (hn : 1 ≤ T.zs.length) (f : Nat → Nat) : sumTo (fun i => f (nextS T i)) T.zs.length = sumTo f T.zs.length := by
  have key : ∀ k, k + 1 ≤ T.zs.length → sumTo (fun i => f (nextS T i)) k + f 0 = sumTo f (k + 1) := by
    intro k
    induction k with
    | zero => intro _; simp [sumTo]
    | succ k ih =>
      intro hk
      have := ih (by omega)
      have e : nextS T k = k + 1 := by rw [nextS_eq (by omega), if_pos (by omega)]
      have e1 : sumTo (fun i => f (nextS T i)) (k + 1) = sumTo (fun i => f (nextS T i)) k + f (nextS T k) := rfl
      have e2 : sumTo f (k + 1 + 1) = sumTo f (k + 1) + f (k + 1) := rfl
      rw [e1, e2, e]
      omega
  obtain ⟨m, hm⟩ : ∃ m, T.zs.length = m + 1 := ⟨T.zs.length - 1, by omega⟩
  have h1 := key m (by omega)
  have e : nextS T m = 0 := by rw [nextS_eq (by omega), if_neg (by omega)]
  have e1 : sumTo (fun i => f (nextS T i)) (m + 1) = sumTo (fun i => f (nextS T i)) m + f (nextS T m) := rfl
  rw [hm, e1, e]
  exact h1

theorem size_zero {T : Tab} {i : Nat} (hn : 1 ≤ T.zs.length) (hi : i < T.zs.length) (h : nth T.zs i = -1) : sizeFrom T i = 0 := by
  refine goN_eq (by omega) (fun j hj => by omega) ?_
  have : stepS T i 0 = i := by rw [step_eq hi (by omega), if_pos (by omega)]; omega
  simp [this, h]
/-- Steps of which none comes to a free slot. -/
theorem size_ge {T : Tab} {i k : Nat} (hk : k ≤ T.zs.length) (h : ∀ j, j < k → nth T.zs (stepS T i j) ≠ -1) : k ≤ sizeFrom T i := by
  refine Nat.not_lt.1 fun hlt => ?_
  have h1 := goN_stop (p := fun j => nth T.zs (stepS T i j) == -1) (n := T.zs.length) (by unfold sizeFrom at hlt; omega)
  have h2 := h _ hlt
  exact h2 (by simpa [sizeFrom] using h1)
theorem size_in {T : Tab} {i j : Nat} (h : j < sizeFrom T i) : nth T.zs (stepS T i j) ≠ -1 := by
  have := goN_free (p := fun j => nth T.zs (stepS T i j) == -1) (n := T.zs.length) h
  simpa using this
theorem size_end {T : Tab} {i : Nat} (h : sizeFrom T i < T.zs.length) : nth T.zs (stepS T i (sizeFrom T i)) = -1 := by
  have := goN_stop (p := fun j => nth T.zs (stepS T i j) == -1) (n := T.zs.length) h
  simpa [sizeFrom] using this
theorem size_le (T : Tab) (i : Nat) : sizeFrom T i ≤ T.zs.length := goN_le _ _
theorem size_lt {T : Tab} {i f : Nat} (hi : i < T.zs.length) (hf : f < T.zs.length) (h : nth T.zs f = -1) : sizeFrom T i < T.zs.length := by
  refine Nat.lt_of_le_of_ne (size_le T i) fun e => ?_
  obtain ⟨h1, h2⟩ := step_away hi hf
  exact size_in (T := T) (i := i) (j := (f + T.zs.length - i) % T.zs.length) (by omega) (by rw [h1]; exact h)
theorem size_next {T : Tab} {i f : Nat} (hi : i < T.zs.length) (h : nth T.zs i ≠ -1) (hf : f < T.zs.length) (hff : nth T.zs f = -1) : sizeFrom T i = sizeFrom T (nextS T i) + 1 := by
  have hn : 1 ≤ T.zs.length := by omega
  have hnl : nextS T i < T.zs.length := stepS_lt hn i 1
  have hlt := size_lt hnl hf hff
  have he := size_end hlt
  rw [step_next hi (by omega)] at he
  have h0 : stepS T i T.zs.length = i := by rw [step_eq hi (Nat.le_refl _), if_neg (by omega)]; omega
  have hne : sizeFrom T (nextS T i) + 1 ≠ T.zs.length := fun e => by
    rw [e, h0] at he
    exact h he
  refine goN_eq (by omega) (fun j hj => ?_) (by simp [he])
  cases j with
  | zero =>
    have : stepS T i 0 = i := by rw [step_eq hi (by omega), if_pos (by omega)]; omega
    simp [this, h]
  | succ j =>
    have := size_in (T := T) (i := nextS T i) (j := j) (by omega)
    rw [step_next hi (by omega)] at this
    simpa using this

theorem cnt_sum (p : Int → Bool) (zs : List Int) (k : Nat) (hk : k ≤ zs.length) : cnt p zs k = sumTo (fun i => if p (nth zs i) then 1 else 0) k := by
  induction k with
  | zero => simp [cnt_zero, sumTo]
  | succ k ih => rw [cnt_succ (by omega) rfl, ih (by omega)]; rfl
theorem runs_sum (T : Tab) (k : Nat) : ((runsTo T k).map Prod.snd).sum = sumTo (fun i => if startB T i then sizeFrom T i else 0) k ∧ (runsTo T k).length = sumTo (fun i => if startB T i then 1 else 0) k := by
  induction k with
  | zero => simp [runsTo, sumTo]
  | succ k ih =>
    cases h : startB T k
    · rw [runsTo_no h]
      simp only [sumTo, h]
      simpa using ih
    · rw [runsTo_yes h]
      simp only [sumTo, h, List.map_append, List.sum_append, List.length_append]
      simp [ih.1, ih.2]

/-- Together runs have all slots that are not free, and they are no more than free slots. -/
theorem runs_all {T : Tab} (hv : validB T = true) : (((runsL T).map Prod.snd).sum : Int) = countK T + countT T ∧ ((runsL T).length : Int) ≤ max (countF T) 1 := by
  obtain ⟨⟨l1, l2⟩, _⟩ := valid_facts hv
  have hall := cnt_all T.zs
  simp only [countK, countT, countF, hv, if_true]
  by_cases hf : ∃ i, i < T.zs.length ∧ nth T.zs i = -1
  · obtain ⟨f, hf, hff⟩ := hf
    have hs := fun i (hi : i < T.zs.length) => startB_free l1 hf hff hi
    obtain ⟨r1, r2⟩ := runs_sum T T.zs.length
    rw [runs_some l1 hf hff, r1, r2]
    have hcf := cnt_sum freeP T.zs T.zs.length (Nat.le_refl _)
    have e1 : sumTo (fun i => if startB T i then sizeFrom T i else 0) T.zs.length = sumTo (fun i => if nth T.zs (prevS T i) = -1 then sizeFrom T i else 0) T.zs.length := by
      refine sumTo_congr fun i hi => ?_
      rw [hs i hi]
      by_cases h1 : nth T.zs i = -1
      · rw [size_zero l1 hi h1]; simp
      · by_cases h2 : nth T.zs (prevS T i) = -1 <;> simp [h1, h2]
    have e2 : sumTo (fun i => if nth T.zs (prevS T (nextS T i)) = -1 then sizeFrom T (nextS T i) else 0) T.zs.length = sumTo (fun i => if nth T.zs (prevS T i) = -1 then sizeFrom T i else 0) T.zs.length := sumTo_turn l1 (fun i => if nth T.zs (prevS T i) = -1 then sizeFrom T i else 0)
    have e3 : sumTo (fun i => sizeFrom T (nextS T i)) T.zs.length = sumTo (sizeFrom T) T.zs.length := sumTo_turn l1 (sizeFrom T)
    have e4 : sumTo (fun i => sizeFrom T i + (if nth T.zs (prevS T (nextS T i)) = -1 then sizeFrom T (nextS T i) else 0)) T.zs.length = sumTo (fun i => (if freeP (nth T.zs i) then 0 else 1) + sizeFrom T (nextS T i)) T.zs.length := by
      refine sumTo_congr fun i hi => ?_
      rw [prev_next hi]
      by_cases h1 : nth T.zs i = -1
      · rw [size_zero l1 hi h1]; simp [h1, freeP]
      · rw [size_next hi h1 hf hff]; simp [h1, freeP]; omega
    rw [sumTo_add, sumTo_add] at e4
    have e9 : sumTo (fun i => sizeFrom T i) T.zs.length = sumTo (sizeFrom T) T.zs.length := rfl
    have e5 : sumTo (fun i => if freeP (nth T.zs i) then 0 else 1) T.zs.length + sumTo (fun i => if freeP (nth T.zs i) then 1 else 0) T.zs.length = T.zs.length := by
      rw [← sumTo_add]
      have : ∀ k, sumTo (fun i => (if freeP (nth T.zs i) then 0 else 1) + (if freeP (nth T.zs i) then 1 else 0)) k = k := by
        intro k
        induction k with
        | zero => rfl
        | succ k ih => simp only [sumTo, ih]; split <;> rfl
      exact this _
    have e6 : sumTo (fun i => if startB T i then 1 else 0) T.zs.length ≤ sumTo (fun i => if freeP (nth T.zs (prevS T i)) then 1 else 0) T.zs.length := sumTo_le fun i hi => by
      rw [hs i hi]
      by_cases h2 : nth T.zs (prevS T i) = -1
      · simp [h2, freeP]; split <;> omega
      · simp [h2, freeP]
    have e7 : sumTo (fun i => if freeP (nth T.zs (prevS T (nextS T i))) then 1 else 0) T.zs.length = sumTo (fun i => if freeP (nth T.zs (prevS T i)) then 1 else 0) T.zs.length := sumTo_turn l1 (fun i => if freeP (nth T.zs (prevS T i)) then 1 else 0)
    have e8 : sumTo (fun i => if freeP (nth T.zs (prevS T (nextS T i))) then 1 else 0) T.zs.length = sumTo (fun i => if freeP (nth T.zs i) then 1 else 0) T.zs.length := sumTo_congr fun i hi => by rw [prev_next hi]
    constructor <;> omega
  · have hno : ∀ i, i < T.zs.length → nth T.zs i ≠ -1 := fun i hi h => hf ⟨i, hi, h⟩
    have h0 : cnt freeP T.zs T.zs.length = 0 := cnt_none fun i hi => by have := hno i hi; simp [freeP, this]
    rw [runs_full l1 hno]
    simp
    omega

/-- The runs of a table: in order, none empty. -/
theorem runs_order {T : Tab} (hv : validB T = true) : (runsL T).Pairwise (fun a b => a.1 < b.1) ∧ ∀ r, r ∈ runsL T → 1 ≤ r.2 := by
  obtain ⟨⟨l1, l2⟩, _⟩ := valid_facts hv
  by_cases hf : ∃ i, i < T.zs.length ∧ nth T.zs i = -1
  · obtain ⟨f, hf, hff⟩ := hf
    rw [runs_some l1 hf hff]
    refine ⟨?_, fun r hr => ?_⟩
    · unfold runsTo
      refine List.Pairwise.map _ (fun _ _ h => h) (R := fun a b : Nat => a < b) ?_
      exact List.Pairwise.filter _ (List.pairwise_lt_range)
    · unfold runsTo at hr
      obtain ⟨i, hi, rfl⟩ := List.mem_map.1 hr
      obtain ⟨h1, h2⟩ := List.mem_filter.1 hi
      have h3 := List.mem_range.1 h1
      rw [startB_free l1 hf hff h3] at h2
      have h4 : nth T.zs i ≠ -1 := by
        intro e; rw [e] at h2; simp at h2
      show 1 ≤ sizeFrom T i
      rw [size_next h3 h4 hf hff]; omega
  · have hno : ∀ i, i < T.zs.length → nth T.zs i ≠ -1 := fun i hi h => hf ⟨i, hi, h⟩
    rw [runs_full l1 hno]
    exact ⟨List.pairwise_singleton _ _, fun r hr => by simp at hr; subst hr; exact l1⟩

end Go.Proofs.Ytpncpeokdcolpaa

namespace Go.Proofs.Ytpncpeokdcolpaa

/-- The sum of the first n values. -/
def sumU (f : Nat → Nat) (n : Nat) : Nat := ((List.range n).map f).sum
theorem sumU_succ (f : Nat → Nat) (n : Nat) : sumU f (n + 1) = sumU f n + f n := by
  simp [sumU, List.range_succ]
theorem sumU_congr {f g : Nat → Nat} {n : Nat} (h : ∀ i, i < n → f i = g i) : sumU f n = sumU g n := by
  induction n with
  | zero => rfl
  | succ n ih => rw [sumU_succ, sumU_succ, ih fun i hi => h i (by omega), h n (by omega)]
theorem sumU_add (f : Nat → Nat) (a b : Nat) : sumU f (a + b) = sumU f a + sumU (fun i => f (a + i)) b := by
  induction b with
  | zero => simp [sumU]
  | succ b ih => rw [← Nat.add_assoc, sumU_succ, ih, sumU_succ]; omega
theorem sumU_head (f : Nat → Nat) (k : Nat) : sumU f (k + 1) = f 0 + sumU (fun j => f (j + 1)) k := by
  rw [Nat.add_comm k 1, sumU_add]
  have : (fun i => f (1 + i)) = fun j => f (j + 1) := funext fun i => by rw [Nat.add_comm]
  rw [this]
  simp [sumU]
theorem sumU_one (n c : Nat) : sumU (fun _ => c) n = n * c := by
  induction n with
  | zero => simp [sumU]
  | succ n ih => rw [sumU_succ, ih, Nat.succ_mul]
theorem sumU_plus (f g : Nat → Nat) (n : Nat) : sumU (fun i => f i + g i) n = sumU f n + sumU g n := by
  induction n with
  | zero => rfl
  | succ n ih => rw [sumU_succ, sumU_succ, sumU_succ, ih]; omega
/-- Around the ring as along it. -/
theorem sum_turn (T : Tab) (f : Nat → Nat) {h : Nat} (hh : h < T.zs.length) : sumU (fun d => f (stepS T h d)) T.zs.length = sumU f T.zs.length := by
  have e1 : T.zs.length = (T.zs.length - h) + h := by omega
  have e2 : T.zs.length = h + (T.zs.length - h) := by omega
  have r1 : sumU (fun d => f (stepS T h d)) T.zs.length = sumU (fun d => f (h + d)) (T.zs.length - h) + sumU f h := by
    conv => lhs; rw [show sumU (fun d => f (stepS T h d)) T.zs.length = sumU (fun d => f (stepS T h d)) ((T.zs.length - h) + h) by rw [← e1]]
    rw [sumU_add]
    congr 1
    · exact sumU_congr fun i hi => by rw [step_eq hh (by omega), if_pos (by omega)]
    · exact sumU_congr fun i hi => by
        rw [step_eq hh (by omega), if_neg (by omega)]
        congr 1
        omega
  have r2 : sumU f T.zs.length = sumU f h + sumU (fun d => f (h + d)) (T.zs.length - h) := by
    conv => lhs; rw [show sumU f T.zs.length = sumU f (h + (T.zs.length - h)) by rw [← e2]]
    rw [sumU_add]
  omega

/-- 1 + 2 + .. + x. -/
def tri (x : Nat) : Nat := x * (x + 1) / 2
theorem tri_succ (x : Nat) : tri (x + 1) = tri x + x + 1 := by
  unfold tri
  have e : (x + 1) * (x + 1 + 1) = x * (x + 1) + 2 * (x + 1) := by simp only [Nat.mul_add, Nat.add_mul]; omega
  rw [e]
  generalize x * (x + 1) = y
  omega
theorem tri_zero : tri 0 = 0 := rfl

/-- Sums over the rest of a ring that ends at a free slot. -/
theorem run_sums (n : Nat) (z : Nat → Nat) (st : Nat → Bool) (h2 : ∀ d, d + 1 < n → z d ≠ 0 → z d = z (d + 1) + 1) (h3 : ∀ d, d + 1 < n → (st (d + 1) = true ↔ z (d + 1) ≠ 0 ∧ z d = 0)) (h4 : ∀ d, d + 1 = n → z d = 0) :
    ∀ k e, e + (k + 1) = n → sumU (fun j => z (e + j)) (k + 1) = sumU (fun j => if st (e + j) then tri (z (e + j)) else 0) (k + 1) + (if st e then 0 else tri (z e)) := by
  intro k
  induction k with
  | zero =>
    intro e he
    have := h4 e (by omega)
    simp [sumU, this, tri_zero]
  | succ k ih =>
    intro e he
    rw [sumU_head, sumU_head (fun j => if st (e + j) then tri (z (e + j)) else 0)]
    have E1 : (fun j => z (e + (j + 1))) = fun j => z (e + 1 + j) := funext fun j => by congr 1; omega
    have E2 : (fun j => if st (e + (j + 1)) then tri (z (e + (j + 1))) else 0) = fun j => if st (e + 1 + j) then tri (z (e + 1 + j)) else 0 := funext fun j => by
      rw [show e + (j + 1) = e + 1 + j by omega]
    rw [E1, E2, ih (e + 1) (by omega), Nat.add_zero]
    have a2 := h2 e (by omega)
    have a3 := h3 e (by omega)
    by_cases c : z e = 0
    · have t0 : tri (z e) = 0 := by rw [c]; rfl
      have : (if st (e + 1) then 0 else tri (z (e + 1))) = 0 := by
        by_cases c2 : z (e + 1) = 0
        · rw [c2, tri_zero]; split <;> rfl
        · rw [if_pos (a3.2 ⟨c2, c⟩)]
      rw [this, t0, c]
      simp
    · have hs : st (e + 1) = false := by
        cases hs : st (e + 1)
        · rfl
        · exact absurd (a3.1 hs).2 c
      have e4 := a2 c
      rw [hs, e4, tri_succ]
      simp only [Bool.false_eq_true, if_false]
      split <;> omega
theorem run_bound (n : Nat) (z : Nat → Nat) (h2 : ∀ d, d + 1 < n → z d ≠ 0 → z d = z (d + 1) + 1) (h4 : ∀ d, d + 1 = n → z d = 0) :
    ∀ k e, e + (k + 1) = n → z e ≤ sumU (fun j => if z (e + j) = 0 then 0 else 1) (k + 1) ∧ sumU (fun j => z (e + j)) (k + 1) ≤ tri (sumU (fun j => if z (e + j) = 0 then 0 else 1) (k + 1)) := by
  intro k
  induction k with
  | zero =>
    intro e he
    have := h4 e (by omega)
    simp [sumU, this]
  | succ k ih =>
    intro e he
    rw [sumU_head (fun j => z (e + j)), sumU_head (fun j => if z (e + j) = 0 then 0 else 1)]
    have E1 : (fun j => z (e + (j + 1))) = fun j => z (e + 1 + j) := funext fun j => by congr 1; omega
    have E2 : (fun j => if z (e + (j + 1)) = 0 then 0 else 1) = fun j => if z (e + 1 + j) = 0 then 0 else 1 := funext fun j => by
      rw [show e + (j + 1) = e + 1 + j by omega]
    rw [E1, E2, Nat.add_zero]
    obtain ⟨i1, i2⟩ := ih (e + 1) (by omega)
    have a2 := h2 e (by omega)
    by_cases c : z e = 0
    · rw [if_pos c, c]
      simp only [Nat.zero_add]
      exact ⟨Nat.zero_le _, i2⟩
    · rw [if_neg c]
      have e4 := a2 c
      generalize sumU (fun j => if z (e + 1 + j) = 0 then 0 else 1) (k + 1) = cc at i1 i2
      rw [Nat.add_comm 1 cc, tri_succ]
      omega

/-- What lies from a slot that is not free on. -/
theorem sizeU_next {T : Tab} {i f : Nat} (hi : i < T.zs.length) (hf : f < T.zs.length) (hff : nth T.zs f = -1) (h : nth T.zs i ≠ -1) : sizeFrom T i = sizeFrom T (stepS T i 1) + 1 := by
  have hn : 1 ≤ T.zs.length := by omega
  have hlt := size_lt (stepS_lt hn i 1) hf hff
  have hend := size_end hlt
  have hst : ∀ j, stepS T (stepS T i 1) j = stepS T i (1 + j) := fun j => by
    unfold stepS
    rw [Nat.mod_add_mod, Nat.add_assoc]
  have hb : sizeFrom T (stepS T i 1) + 1 < T.zs.length := by
    by_cases c : sizeFrom T (stepS T i 1) + 1 = T.zs.length
    · rw [hst, show 1 + sizeFrom T (stepS T i 1) = T.zs.length by omega] at hend
      have : stepS T i T.zs.length = i := by unfold stepS; rw [Nat.add_mod_right, Nat.mod_eq_of_lt hi]
      rw [this] at hend
      exact absurd hend h
    · omega
  refine goN_eq hb (fun j hj => ?_) ?_
  · by_cases c : j = 0
    · subst c
      have : stepS T i 0 = i := Nat.mod_eq_of_lt hi
      rw [this]; simpa using h
    · have := size_in (T := T) (i := stepS T i 1) (j := j - 1) (by omega)
      rw [hst, show 1 + (j - 1) = j by omega] at this
      simpa using this
  · rw [hst, Nat.add_comm 1] at hend
    simpa using hend
theorem sizeU_zero {T : Tab} {i : Nat} (hi : i < T.zs.length) (h : nth T.zs i = -1) : sizeFrom T i = 0 := by
  refine goN_eq (by omega) (fun j hj => by omega) ?_
  have : stepS T i 0 = i := Nat.mod_eq_of_lt hi
  rw [this]; simpa using h
theorem size_pos {T : Tab} {i : Nat} (h : sizeFrom T i ≠ 0) (hi : i < T.zs.length) : nth T.zs i ≠ -1 := fun e => h (sizeU_zero hi e)

/-- The misses where a slot is free: one more than what lies ahead. -/
theorem miss_size {T : Tab} {f : Nat} (hf : f < T.zs.length) (hff : nth T.zs f = -1) {i : Nat} (hi : i < T.zs.length) : missN T i = sizeFrom T i + 1 := by
  have := size_lt hi hf hff
  show min (sizeFrom T i + 1) T.zs.length = _
  omega
theorem miss_full {T : Tab} (hno : ∀ i, i < T.zs.length → nth T.zs i ≠ -1) (i : Nat) (hn : 1 ≤ T.zs.length) : missN T i = T.zs.length :=
  cntN_all fun j _ => by
    have := hno _ (stepS_lt hn i j)
    simpa [freeAt] using this
theorem missTo_sum (T : Tab) (k : Nat) : missTo T k = sumU (missN T) k := rfl
theorem miss_total_full {T : Tab} (hno : ∀ i, i < T.zs.length → nth T.zs i ≠ -1) : missTo T T.zs.length = T.zs.length * T.zs.length := by
  rw [missTo_sum, sumU_congr (g := fun _ => T.zs.length) fun i hi => miss_full hno i (by omega), sumU_one]
theorem miss_total {T : Tab} {f : Nat} (hf : f < T.zs.length) (hff : nth T.zs f = -1) : missTo T T.zs.length = T.zs.length + sumU (sizeFrom T) T.zs.length := by
  rw [missTo_sum, sumU_congr (g := fun i => 1 + sizeFrom T i) fun i hi => by rw [miss_size hf hff hi, Nat.add_comm], sumU_plus, sumU_one, Nat.mul_one]

/-- The ring from behind a free slot on. -/
theorem ring_from {T : Tab} {f : Nat} (hf : f < T.zs.length) (hff : nth T.zs f = -1) :
    (∀ d, d + 1 < T.zs.length → sizeFrom T (stepS T (stepS T f 1) d) ≠ 0 → sizeFrom T (stepS T (stepS T f 1) d) = sizeFrom T (stepS T (stepS T f 1) (d + 1)) + 1) ∧
    (∀ d, d + 1 = T.zs.length → sizeFrom T (stepS T (stepS T f 1) d) = 0) := by
  have hn : 1 ≤ T.zs.length := by omega
  have hst : ∀ h j k, stepS T (stepS T h j) k = stepS T h (j + k) := fun h j k => by
    unfold stepS
    rw [Nat.mod_add_mod, Nat.add_assoc]
  refine ⟨fun d _ h => ?_, fun d hd => ?_⟩
  · have hp := size_pos h (stepS_lt hn _ _)
    rw [sizeU_next (stepS_lt hn _ _) hf hff hp, hst (stepS T f 1) d 1]
  · rw [hst, show 1 + d = T.zs.length by omega]
    have : stepS T f T.zs.length = f := by unfold stepS; rw [Nat.add_mod_right, Nat.mod_eq_of_lt hf]
    rw [this, sizeU_zero hf hff]

theorem sum_filter (p : Nat → Bool) (f : Nat → Nat) (n : Nat) : (((List.range n).filter p).map f).sum = sumU (fun i => if p i then f i else 0) n := by
  induction n with
  | zero => rfl
  | succ n ih =>
    rw [List.range_succ, List.filter_append, List.map_append, List.sum_append, ih, sumU_succ]
    cases h : p n <;> simp [h]

/-- Runs tell what is visited in vain. -/
theorem miss_runs {T : Tab} {f : Nat} (hf : f < T.zs.length) (hff : nth T.zs f = -1) : missTo T T.zs.length = T.zs.length + ((runsL T).map fun r => tri r.2).sum := by
  have hn : 1 ≤ T.zs.length := by omega
  have hst : ∀ h j k, stepS T (stepS T h j) k = stepS T h (j + k) := fun h j k => by
    unfold stepS
    rw [Nat.mod_add_mod, Nat.add_assoc]
  obtain ⟨r2, r4⟩ := ring_from hf hff
  rw [miss_total hf hff, runs_some hn hf hff]
  congr 1
  unfold runsTo
  rw [List.map_map, sum_filter (startB T) ((fun r : Nat × Nat => tri r.2) ∘ fun i => (i, sizeFrom T i))]
  have hh := stepS_lt (T := T) hn f 1
  rw [← sum_turn T (sizeFrom T) hh, ← sum_turn T (fun i => if startB T i then ((fun r : Nat × Nat => tri r.2) ∘ fun i => (i, sizeFrom T i)) i else 0) hh]
  have hprev : ∀ d, prevS T (stepS T (stepS T f 1) d) = stepS T f d := fun d => by
    unfold prevS stepS
    have h1 : ((f + 1) % T.zs.length + d) % T.zs.length = (f + d + 1) % T.zs.length := by rw [Nat.mod_add_mod]; congr 1; omega
    rw [h1]
    have hc : (f + d + 1) % T.zs.length = if (f + d) % T.zs.length + 1 = T.zs.length then 0 else (f + d) % T.zs.length + 1 := by
      have := Nat.mod_lt (f + d) (show 0 < T.zs.length by omega)
      rw [← Nat.mod_add_mod]
      split
      · rename_i e; rw [e, Nat.mod_self]
      · exact Nat.mod_eq_of_lt (by omega)
    have hl := Nat.mod_lt (f + d) (show 0 < T.zs.length by omega)
    rw [hc]
    split
    · rw [Nat.zero_add, Nat.mod_eq_of_lt (by omega)]; omega
    · rw [show (f + d) % T.zs.length + 1 + T.zs.length - 1 = (f + d) % T.zs.length + T.zs.length by omega, Nat.add_mod_right, Nat.mod_eq_of_lt hl]
  have hstart : ∀ d, startB T (stepS T (stepS T f 1) d) = true ↔ (sizeFrom T (stepS T (stepS T f 1) d) ≠ 0 ∧ nth T.zs (stepS T f d) = -1) := fun d => by
    rw [startB_free hn hf hff (stepS_lt hn _ _), hprev]
    have hz : sizeFrom T (stepS T (stepS T f 1) d) ≠ 0 ↔ nth T.zs (stepS T (stepS T f 1) d) ≠ -1 :=
      ⟨fun h => size_pos h (stepS_lt hn _ _), fun h e => by rw [sizeU_next (stepS_lt hn _ _) hf hff h] at e; omega⟩
    rw [hz]
    simp
  have hS := run_sums T.zs.length (fun d => sizeFrom T (stepS T (stepS T f 1) d)) (fun d => startB T (stepS T (stepS T f 1) d)) r2 (fun d _ => by
    rw [hstart (d + 1), hst f 1 (d + 1), show f = f from rfl, Nat.add_comm d 1, ← hst f 1 d]
    constructor
    · rintro ⟨a, b⟩; exact ⟨a, sizeU_zero (stepS_lt hn _ _) b⟩
    · rintro ⟨a, b⟩
      refine ⟨a, ?_⟩
      by_cases c : nth T.zs (stepS T (stepS T f 1) d) = -1
      · exact c
      · rw [sizeU_next (stepS_lt hn _ _) hf hff c] at b
        omega) r4 (T.zs.length - 1) 0 (by omega)
  rw [show T.zs.length - 1 + 1 = T.zs.length by omega] at hS
  simp only [Nat.zero_add] at hS
  rw [hS]
  have h00 : (if startB T (stepS T (stepS T f 1) 0) then 0 else tri (sizeFrom T (stepS T (stepS T f 1) 0))) = 0 := by
    split
    · rfl
    · rename_i hns
      have : ¬ (sizeFrom T (stepS T (stepS T f 1) 0) ≠ 0) := fun h => hns ((hstart 0).2 ⟨h, by
        have : stepS T f 0 = f := Nat.mod_eq_of_lt hf
        rw [this]; exact hff⟩)
      rw [show sizeFrom T (stepS T (stepS T f 1) 0) = 0 by omega, tri_zero]
  rw [h00]
  rfl
theorem miss_spread {T : Tab} {f : Nat} (hf : f < T.zs.length) (hff : nth T.zs f = -1) {k : Nat} (hk : sumU (fun i => if nth T.zs i = -1 then 0 else 1) T.zs.length = k) :
    T.zs.length + k ≤ missTo T T.zs.length ∧ missTo T T.zs.length ≤ T.zs.length + tri k := by
  have hn : 1 ≤ T.zs.length := by omega
  obtain ⟨r2, r4⟩ := ring_from hf hff
  have hh := stepS_lt (T := T) hn f 1
  have hz : ∀ i, i < T.zs.length → ((if nth T.zs i = -1 then 0 else 1) = if sizeFrom T i = 0 then 0 else 1) := fun i hi => by
    by_cases c : nth T.zs i = -1
    · rw [if_pos c, if_pos (sizeU_zero hi c)]
    · rw [if_neg c, if_neg (by rw [sizeU_next hi hf hff c]; omega)]
  rw [sumU_congr hz] at hk
  rw [miss_total hf hff]
  have hb := (run_bound T.zs.length (fun d => sizeFrom T (stepS T (stepS T f 1) d)) r2 r4 (T.zs.length - 1) 0 (by omega)).2
  rw [show T.zs.length - 1 + 1 = T.zs.length by omega] at hb
  simp only [Nat.zero_add] at hb
  rw [sum_turn T (sizeFrom T) hh, sum_turn T (fun i => if sizeFrom T i = 0 then 0 else 1) hh, hk] at hb
  refine ⟨?_, by omega⟩
  have hle : ∀ n, sumU (fun i => if sizeFrom T i = 0 then 0 else 1) n ≤ sumU (sizeFrom T) n := fun n => by
    induction n with
    | zero => exact Nat.le_refl _
    | succ n ih =>
      rw [sumU_succ, sumU_succ]
      have : (if sizeFrom T n = 0 then 0 else 1) ≤ sizeFrom T n := by split <;> omega
      omega
  have := hle T.zs.length
  omega

end Go.Proofs.Ytpncpeokdcolpaa

namespace Go.Proofs.Ytpncpeokdcolpaa

theorem size_inner {T : Tab} {p f : Nat} (hf : f < T.zs.length) (hff : nth T.zs f = -1) {d : Nat} (hp : p < T.zs.length) (hd : d ≤ sizeFrom T p) : sizeFrom T (stepS T p d) + d = sizeFrom T p := by
  have hn : 1 ≤ T.zs.length := by omega
  induction d with
  | zero => rw [show stepS T p 0 = p from Nat.mod_eq_of_lt hp]; rfl
  | succ d ih =>
    have h1 := ih (by omega)
    have h2 := size_in (T := T) (i := p) (j := d) (by omega)
    have h3 := sizeU_next (stepS_lt hn p d) hf hff h2
    have h4 : stepS T (stepS T p d) 1 = stepS T p (d + 1) := by
      unfold stepS
      rw [Nat.mod_add_mod, Nat.add_assoc]
    rw [h4] at h3
    omega
/-- What is visited from a slot of a run on. -/
theorem miss_inner {T : Tab} {p f s : Nat} (hf : f < T.zs.length) (hff : nth T.zs f = -1) (hp : p < T.zs.length) (hs : s < T.zs.length) (hd : (s + T.zs.length - p) % T.zs.length < sizeFrom T p) :
    missN T s + (s + T.zs.length - p) % T.zs.length = sizeFrom T p + 1 := by
  have h1 := size_inner hf hff hp (d := (s + T.zs.length - p) % T.zs.length) (by omega)
  rw [(step_away hp hs).1] at h1
  rw [miss_size hf hff hs]
  omega
theorem miss_free {T : Tab} {f : Nat} (hf : f < T.zs.length) (hff : nth T.zs f = -1) : missN T f = 1 := by
  rw [miss_size hf hff hf, sizeU_zero hf hff]

theorem worst_to (T : Tab) (k : Nat) : (∀ i, i < k → missN T i ≤ missN T (worstTo T k)) ∧ (∀ i, i < worstTo T k → missN T i < missN T (worstTo T k)) := by
  induction k with
  | zero => exact ⟨fun i hi => by omega, fun i hi => by simp [worstTo] at hi⟩
  | succ k ih =>
    obtain ⟨h1, h2⟩ := ih
    by_cases c : missN T (worstTo T k) < missN T k
    · have e : worstTo T (k + 1) = k := by simp [worstTo, c]
      rw [e]
      refine ⟨fun i hi => ?_, fun i hi => ?_⟩
      · by_cases ci : i = k
        · subst ci; exact Nat.le_refl _
        · have := h1 i (by omega); omega
      · have := h1 i hi; omega
    · have e : worstTo T (k + 1) = worstTo T k := by simp [worstTo, c]
      rw [e]
      refine ⟨fun i hi => ?_, h2⟩
      by_cases ci : i = k
      · subst ci; omega
      · exact h1 i (by omega)
/-- A run opens where most is visited. -/
theorem worst_opens {T : Tab} {f p w : Nat} (hf : f < T.zs.length) (hff : nth T.zs f = -1) (hw : w = worstTo T T.zs.length) (hp : p < T.zs.length) (hd : (w + T.zs.length - p) % T.zs.length < sizeFrom T p) : p = w := by
  have hwl : w < T.zs.length := by subst hw; exact worstTo_lt (by omega)
  have h1 := miss_inner hf hff hp hwl hd
  have h2 := miss_size hf hff hp
  have h3 := (worst_to T T.zs.length).1 p hp
  rw [← hw] at h3
  have h0 : (w + T.zs.length - p) % T.zs.length = 0 := by omega
  by_cases c : p ≤ w
  · rw [show w + T.zs.length - p = w - p + T.zs.length by omega, Nat.add_mod_right, Nat.mod_eq_of_lt (by omega)] at h0
    omega
  · rw [Nat.mod_eq_of_lt (by omega)] at h0
    omega

/-- Where a key is not there, it is looked for up to a free slot. -/
theorem vis_miss {T : Tab} {key : Int} (h : key ∉ T.zs) (hn : 1 ≤ T.zs.length) (i : Nat) : visN T key i = missN T i := by
  have : stopAt T key i = freeAt T i := funext fun d => by
    have : nth T.zs (stepS T i d) ≠ key := fun e => h (e ▸ nth_mem (stepS_lt hn i d))
    simp [stopAt, freeAt, this]
  unfold visN missN cntN
  rw [this]

theorem goN_mono {p q : Nat → Bool} {n : Nat} (h : ∀ d, d < n → p d = true → q d = true) : goN q n ≤ goN p n := by
  by_cases c : goN p n < n
  · refine Nat.le_of_not_lt fun hlt => ?_
    have h1 := goN_stop c
    have h2 := goN_free hlt
    rw [h _ c h1] at h2
    cases h2
  · have := goN_le q n
    have := goN_le p n
    omega

end Go.Proofs.Ytpncpeokdcolpaa

namespace Go.Proofs.Ytpncpeokdcolpaa

/-- The slots that are not free. -/
theorem sum_occ (zs : List Int) : ∀ k, k ≤ zs.length → sumU (fun i => if nth zs i = -1 then 0 else 1) k + cnt freeP zs k = k := by
  intro k
  induction k with
  | zero => intro _; simp [sumU, cnt_zero]
  | succ k ih =>
    intro hk
    have h1 := ih (by omega)
    rw [sumU_succ, cnt_succ (x := nth zs k) (by omega) rfl]
    by_cases c : nth zs k = -1
    · rw [if_pos c, c]
      have : freeP (-1) = true := by decide
      rw [this, if_pos rfl]; omega
    · rw [if_neg c]
      have : freeP (nth zs k) = false := by simp [freeP, c]
      rw [this]
      simp only [Bool.false_eq_true, if_false]
      omega
theorem free_none {zs : List Int} (h : cnt freeP zs zs.length = 0) : ∀ i, i < zs.length → nth zs i ≠ -1 := fun i hi e => by
  unfold cnt at h
  rw [List.take_length, List.countP_eq_zero] at h
  exact h _ (nth_mem hi) (by rw [e]; decide)
theorem free_some {zs : List Int} (h : cnt freeP zs zs.length ≠ 0) : ∃ f, f < zs.length ∧ nth zs f = -1 := by
  by_cases c : ∃ f, f < zs.length ∧ nth zs f = -1
  · exact c
  · exact absurd (cnt_none fun i hi => by
      have : nth zs i ≠ -1 := fun e => c ⟨i, hi, e⟩
      simp [freeP, this]) h

/-- What FnSpread asks. -/
theorem spread_says {T : Tab} (hv : validB T = true) : ∃ m k : Nat, missAll T = m ∧ countK T + countT T = k ∧ k ≤ 16 ∧ m ≤ 256 ∧ T.zs.length ≤ 16 ∧
    ((countF T = 0 ∧ m = k * k) ∨ (countF T ≠ 0 ∧ T.zs.length + k ≤ m ∧ m ≤ T.zs.length + tri k)) := by
  obtain ⟨⟨l1, l2⟩, _⟩ := valid_facts hv
  have ha := cnt_all T.zs
  have ho := sum_occ T.zs _ (Nat.le_refl _)
  have hle := Nat.le_trans (missTo_le l1 T.zs.length) (Nat.mul_le_mul l2 l2)
  refine ⟨missTo T T.zs.length, cnt keyP T.zs T.zs.length + cnt tombP T.zs T.zs.length, by simp [missAll, hv], by simp [countK, countT, hv], by omega, hle, l2, ?_⟩
  simp only [countF, hv, if_true]
  by_cases c : cnt freeP T.zs T.zs.length = 0
  · left
    refine ⟨by omega, ?_⟩
    rw [miss_total_full (free_none c)]
    have : cnt keyP T.zs T.zs.length + cnt tombP T.zs T.zs.length = T.zs.length := by omega
    rw [this]
  · right
    obtain ⟨f, hf, hff⟩ := free_some c
    refine ⟨by omega, ?_⟩
    exact miss_spread hf hff (by omega)
theorem tri_two (k : Nat) : ((k : Int) * ((k : Int) + 1)).tdiv 2 = tri k := by
  unfold tri
  have : (k : Int) * ((k : Int) + 1) = ((k * (k + 1) : Nat) : Int) := by simp
  rw [this, Int.tdiv_eq_ediv_of_nonneg (by omega)]
  rfl
theorem tri_le {k : Nat} (h : k ≤ 16) : tri k ≤ 136 ∧ k * k ≤ 256 ∧ k * (k + 1) ≤ 272 := by
  have h1 : k * (k + 1) ≤ 16 * 17 := Nat.mul_le_mul h (by omega)
  have h2 : k * k ≤ 16 * 16 := Nat.mul_le_mul h h
  unfold tri
  omega

end Go.Proofs.Ytpncpeokdcolpaa

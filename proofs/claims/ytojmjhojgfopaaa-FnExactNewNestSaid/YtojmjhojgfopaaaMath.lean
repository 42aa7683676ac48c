/-
  Tables, finding, putting and runs as plain functions, and what is true of them. No program.
-/
import Derived.RowKit3
namespace Go.Proofs.Ytojmjhojgfopaaa

/-- A table as data. -/
structure Tab where
  t : Int
  p : Int
  zs : List Int

/-- lo to hi, both included -/
def inB (n lo hi : Int) : Bool := decide (lo ≤ n) && decide (n ≤ hi)
theorem inB_true {n lo hi : Int} (h : lo ≤ n ∧ n ≤ hi) : inB n lo hi = true := by simp [inB, h]
theorem inB_iff {n lo hi : Int} : inB n lo hi = true ↔ lo ≤ n ∧ n ≤ hi := by simp [inB]
theorem inB_false {n lo hi : Int} : inB n lo hi = false ↔ ¬ (lo ≤ n ∧ n ≤ hi) := by rw [← inB_iff]; simp

/-- The head of a table: its size, Times and Plus. -/
def headB (size times plus : Int) : Bool := inB size 1 16 && (inB times 0 15 && inB plus 0 15)
theorem head_size {n t p : Int} (h : headB n t p = true) : inB n 1 16 = true ∧ inB t 0 15 = true ∧ inB p 0 15 = true := by simpa [headB, and_assoc] using h

/-- What slot i of a list holds (0 behind its end). -/
abbrev nth (zs : List Int) (i : Nat) : Int := zs[i]?.getD 0

/-- The first k slots hold keys, free slots or tombs, and no key twice. -/
def Good (zs : List Int) (k : Nat) : Prop := ∀ i, i < k → inB (nth zs i) (-2) 99 = true ∧ (0 ≤ nth zs i → ∀ j, j < i → nth zs j ≠ nth zs i)
instance (zs : List Int) (k : Nat) : Decidable (Good zs k) := by unfold Good; infer_instance

def validB (T : Tab) : Bool := headB T.zs.length T.t T.p && decide (Good T.zs T.zs.length)
theorem validB_iff {T : Tab} : validB T = true ↔ headB T.zs.length T.t T.p = true ∧ Good T.zs T.zs.length := by simp [validB]

theorem Good.zero (zs : List Int) : Good zs 0 := fun _ h => by omega
theorem Good.succ {zs : List Int} {k : Nat} (h : Good zs k) (h1 : inB (nth zs k) (-2) 99 = true) (h2 : 0 ≤ nth zs k → ∀ j, j < k → nth zs j ≠ nth zs k) : Good zs (k + 1) := by
  intro i hi
  by_cases e : i = k
  · subst e; exact ⟨h1, h2⟩
  · exact h i (by omega)
theorem not_good {zs : List Int} {k n : Nat} (hk : k < n) (h : ¬ (inB (nth zs k) (-2) 99 = true ∧ (0 ≤ nth zs k → ∀ j, j < k → nth zs j ≠ nth zs k))) : ¬ Good zs n := fun hg => h (hg k hk)

/-- The first slot that holds n, or -1. -/
def fnd (zs : List Int) (n : Int) : Int := if zs.findIdx (· == n) < zs.length then zs.findIdx (· == n) else -1
theorem fnd_at {zs : List Int} {n : Int} {k : Nat} (hk : k < zs.length) (h : ∀ j, j < k → nth zs j ≠ n) (he : nth zs k = n) : fnd zs n = k := by
  have e : zs.findIdx (· == n) = k := by
    refine (List.findIdx_eq hk).2 ⟨?_, fun j hj => ?_⟩
    · rw [nth, List.getElem?_eq_getElem hk] at he
      simpa using he
    · have := h j hj
      rw [nth, List.getElem?_eq_getElem (by omega)] at this
      simpa using this
  simp [fnd, e, hk]
theorem fnd_none {zs : List Int} {n : Int} (h : ∀ j, j < zs.length → nth zs j ≠ n) : fnd zs n = -1 := by
  have e : zs.findIdx (· == n) = zs.length := by
    rw [List.findIdx_eq_length]
    intro x hx
    obtain ⟨j, hj, rfl⟩ := List.mem_iff_getElem.1 hx
    have := h j hj
    rw [nth, List.getElem?_eq_getElem hj] at this
    simpa using this
  simp [fnd, e]
theorem fnd_cases (zs : List Int) (n : Int) : (fnd zs n = -1 ∧ ∀ j, j < zs.length → nth zs j ≠ n) ∨ (∃ k : Nat, k < zs.length ∧ fnd zs n = k ∧ nth zs k = n ∧ ∀ j, j < k → nth zs j ≠ n) := by
  by_cases h : zs.findIdx (· == n) < zs.length
  · right
    refine ⟨zs.findIdx (· == n), h, by simp [fnd, h], ?_, fun j hj => ?_⟩
    · have := List.findIdx_getElem (w := h)
      rw [nth, List.getElem?_eq_getElem h]
      simpa using this
    · have := List.not_of_lt_findIdx hj
      rw [nth, List.getElem?_eq_getElem (by omega)]
      simpa using this
  · left
    refine ⟨by simp [fnd, h], fun j hj => ?_⟩
    have h1 : zs.findIdx (· == n) = zs.length := Nat.le_antisymm (List.findIdx_le_length) (by omega)
    have := (List.findIdx_eq_length (p := (· == n))).1 h1 zs[j] (List.getElem_mem hj)
    rw [nth, List.getElem?_eq_getElem hj]
    simpa using this

theorem ne_step {zs : List Int} {n : Int} {k : Nat} (h : ∀ j, j < k → nth zs j ≠ n) (he : nth zs k ≠ n) : ∀ j, j < k + 1 → nth zs j ≠ n := by
  intro j hj
  by_cases e : j = k
  · subst e; exact he
  · exact h j (by omega)

theorem fnd_first {zs : List Int} {x : Int} {k : Nat} (hk : k < zs.length) (he : nth zs k = x) : fnd zs x = k ↔ ∀ j, j < k → nth zs j ≠ x := by
  constructor
  · intro h
    rcases fnd_cases zs x with ⟨h1, h2⟩ | ⟨m, hm, h1, h2, h3⟩
    · exact absurd he (h2 k hk)
    · obtain rfl : m = k := by omega
      exact h3
  · exact fun h => fnd_at hk h he
theorem fnd_step {zs : List Int} {x : Int} {k : Nat} (hk : k < zs.length) (he : nth zs k = x) (h : (fnd zs x != (k : Int)) = false) : 0 ≤ nth zs k → ∀ j, j < k → nth zs j ≠ nth zs k := by
  intro _
  rw [he]
  exact (fnd_first hk he).1 (by simpa using h)
theorem fnd_bad {zs : List Int} {x : Int} {k : Nat} (hk : k < zs.length) (he : nth zs k = x) (h0 : 0 ≤ x) (h : (fnd zs x != (k : Int)) = true) : ¬ (inB x (-2) 99 = true ∧ (0 ≤ x → ∀ j, j < k → nth zs j ≠ x)) := by
  intro hc
  have := (fnd_first hk he).2 (hc.2 h0)
  simp [this] at h

/-- The home of a key. -/
def homeI (T : Tab) (key : Int) : Int := (T.t * key + T.p) % T.zs.length

theorem mul_bounds {t k : Int} (h1 : 0 ≤ t) (h2 : t ≤ 15) (h3 : -2 ≤ k) (h4 : k ≤ 99) : -30 ≤ t * k ∧ t * k ≤ 1485 := by
  constructor
  · have := Int.mul_le_mul_of_nonneg_left h3 h1; omega
  · by_cases hk : 0 ≤ k
    · have := Int.mul_le_mul h2 h4 hk (by omega); omega
    · have := Int.mul_le_mul_of_nonneg_left (show k ≤ 0 by omega) h1; omega
theorem mul_nonneg' {t k : Int} (h1 : 0 ≤ t) (h3 : 0 ≤ k) : 0 ≤ t * k := Int.mul_nonneg h1 h3

/-- What a valid table gives. -/
theorem valid_facts {T : Tab} (h : validB T = true) : (1 ≤ T.zs.length ∧ T.zs.length ≤ 16) ∧ (0 ≤ T.t ∧ T.t ≤ 15) ∧ (0 ≤ T.p ∧ T.p ≤ 15) ∧ Good T.zs T.zs.length := by
  obtain ⟨h1, h2⟩ := validB_iff.1 h
  obtain ⟨a, b, c⟩ := head_size h1
  obtain ⟨a1, a2⟩ := inB_iff.1 a
  exact ⟨⟨by omega, by omega⟩, inB_iff.1 b, inB_iff.1 c, h2⟩
theorem valid_slot {T : Tab} (h : validB T = true) {i : Nat} (hi : i < T.zs.length) : -2 ≤ nth T.zs i ∧ nth T.zs i ≤ 99 := inB_iff.1 ((valid_facts h).2.2.2 i hi).1

theorem homeI_bounds {T : Tab} (h : validB T = true) (key : Int) : 0 ≤ homeI T key ∧ homeI T key < T.zs.length := by
  have h1 := (valid_facts h).1
  exact ⟨Int.emod_nonneg _ (by omega), Int.emod_lt_of_pos _ (by omega)⟩

theorem tmod_bounds (x : Int) {n : Int} (hn : 0 < n) : -n < x.tmod n ∧ x.tmod n < n := by
  have h2 := Int.tmod_lt_of_pos x hn
  refine ⟨?_, h2⟩
  have h3 := Int.tmod_lt_of_pos (-x) hn
  rw [Int.neg_tmod] at h3
  omega
theorem wrap_mod (x n : Int) : (x.tmod n + n) % n = x % n := by
  have h : n * x.tdiv n + x.tmod n = x := Int.mul_tdiv_add_tmod x n
  have e : x % n = (x.tmod n + n * x.tdiv n) % n := by rw [Int.add_comm (x.tmod n), h]
  rw [Int.add_emod_right, e, Int.add_mul_emod_self_left]

/-- HomeOf of the document. -/
def homeOf (T : Tab) (key : Int) : Int := if validB T && inB key 0 99 then homeI T key else -1
theorem homeOf_no {T : Tab} {key : Int} (h : validB T = false ∨ inB key 0 99 = false) : -1 = homeOf T key := by
  unfold homeOf
  rcases h with h | h <;> simp [h]
theorem homeOf_yes {T : Tab} {key : Int} (h : validB T = true) (hk : inB key 0 99 = true) : homeI T key = homeOf T key := by simp [homeOf, h, hk]

end Go.Proofs.Ytojmjhojgfopaaa

namespace Go.Proofs.Ytojmjhojgfopaaa

/-- AwayOf of the document. -/
def awayOf (T : Tab) (slot : Int) : Int :=
  if validB T && inB slot 0 (T.zs.length - 1) && decide (0 ≤ nth T.zs slot.toNat) then (slot - homeI T (nth T.zs slot.toNat)) % T.zs.length else -1
theorem awayOf_no {T : Tab} {slot : Int} (h : validB T = false ∨ inB slot 0 (T.zs.length - 1) = false ∨ nth T.zs slot.toNat < 0) : -1 = awayOf T slot := by
  unfold awayOf
  rcases h with h | h | h
  · simp [h]
  · simp [h]
  · simp only [show ¬ 0 ≤ nth T.zs slot.toNat by omega, decide_false, Bool.and_false]; rfl
theorem awayOf_yes {T : Tab} {k : Nat} {x : Int} (h : validB T = true) (hk : k < T.zs.length) (hx : nth T.zs k = x) (h0 : 0 ≤ x) : ((k : Int) - homeI T x) % T.zs.length = awayOf T k := by
  have h1 : inB (k : Int) 0 (T.zs.length - 1) = true := inB_true (by omega)
  subst hx
  unfold awayOf
  rw [if_pos (by simp only [h, h1, Int.toNat_natCast, Bool.true_and, decide_eq_true_eq]; exact h0), Int.toNat_natCast]

/-- How many of the first k slots are so. -/
def cnt (p : Int → Bool) (zs : List Int) (k : Nat) : Nat := (zs.take k).countP p
theorem cnt_zero (p : Int → Bool) (zs : List Int) : cnt p zs 0 = 0 := by simp [cnt]
theorem cnt_succ {p : Int → Bool} {zs : List Int} {k : Nat} {x : Int} (hk : k < zs.length) (hx : nth zs k = x) : cnt p zs (k + 1) = cnt p zs k + (if p x then 1 else 0) := by
  have h : zs[k] = x := by simpa [nth, List.getElem?_eq_getElem hk] using hx
  rw [cnt, List.take_succ_eq_append_getElem hk, List.countP_append, h]
  simp [cnt, List.countP_cons]
theorem cnt_le (p : Int → Bool) (zs : List Int) (k : Nat) : cnt p zs k ≤ zs.length := Nat.le_trans List.countP_le_length (by simp; omega)
def keyP (x : Int) : Bool := !(x == -1) && !(x == -2)
def tombP (x : Int) : Bool := x == -2
def freeP (x : Int) : Bool := x == -1
/-- CountSlots of the document. -/
def countK (T : Tab) : Int := if validB T then cnt keyP T.zs T.zs.length else -1
def countT (T : Tab) : Int := if validB T then cnt tombP T.zs T.zs.length else -1
def countF (T : Tab) : Int := if validB T then cnt freeP T.zs T.zs.length else -1

/-- The keys below j that a list has, in order. -/
def sortTo (zs : List Int) (j : Nat) : List Int := ((List.range j).filter (fun k : Nat => decide (0 ≤ fnd zs k))).map (fun k : Nat => (k : Int))
/-- The keys of a list, in order, each once. -/
def sortU (zs : List Int) : List Int := sortTo zs 100
theorem sortTo_zero (zs : List Int) : sortTo zs 0 = [] := rfl
theorem sortTo_yes {zs : List Int} {j : Nat} (h : 0 ≤ fnd zs j) : sortTo zs (j + 1) = sortTo zs j ++ [(j : Int)] := by
  simp [sortTo, List.range_succ, List.filter_append, h]
theorem sortTo_no {zs : List Int} {j : Nat} (h : fnd zs j < 0) : sortTo zs (j + 1) = sortTo zs j := by
  have : ¬ 0 ≤ fnd zs j := by omega
  simp [sortTo, List.range_succ, List.filter_append, this]
theorem sortTo_len (zs : List Int) (j : Nat) : (sortTo zs j).length ≤ j := by
  simp only [sortTo, List.length_map]
  exact Nat.le_trans (List.length_filter_le _ _) (by simp)
theorem mem_sortTo {zs : List Int} {j : Nat} {x : Int} : x ∈ sortTo zs j ↔ ∃ k : Nat, k < j ∧ x = k ∧ 0 ≤ fnd zs k := by
  simp only [sortTo, List.mem_map, List.mem_filter, List.mem_range, decide_eq_true_eq]
  constructor
  · rintro ⟨k, ⟨h1, h2⟩, rfl⟩; exact ⟨k, h1, rfl, h2⟩
  · rintro ⟨k, h1, rfl, h2⟩; exact ⟨k, ⟨h1, h2⟩, rfl⟩

end Go.Proofs.Ytojmjhojgfopaaa

namespace Go.Proofs.Ytojmjhojgfopaaa

/-- Back along a ring. -/
theorem wsub {a b n : Int} (a0 : 0 ≤ a) (a1 : a < n) (b0 : 0 ≤ b) (b1 : b < n) : (a - b) % n = if b ≤ a then a - b else a - b + n := by
  split
  · exact Int.emod_eq_of_lt (by omega) (by omega)
  · rw [← Int.add_emod_right]
    exact Int.emod_eq_of_lt (by omega) (by omega)
/-- On along a ring. -/
theorem wadd {a b n : Int} (a0 : 0 ≤ a) (a1 : a < n) (b0 : 0 ≤ b) (b1 : b < n) : (a + b) % n = if a + b < n then a + b else a + b - n := by
  split
  · exact Int.emod_eq_of_lt (by omega) (by omega)
  · rw [← Int.sub_emod_right]
    exact Int.emod_eq_of_lt (by omega) (by omega)
theorem nadd {a b n : Nat} (a1 : a < n) (b1 : b ≤ n) : (a + b) % n = if a + b < n then a + b else a + b - n := by
  split
  · exact Nat.mod_eq_of_lt (by omega)
  · rw [Nat.mod_eq_sub_mod (by omega)]
    exact Nat.mod_eq_of_lt (by omega)

theorem Good.inj {zs : List Int} {n i j : Nat} (h : Good zs n) (hi : i < n) (hj : j < n) (e : nth zs i = nth zs j) (h0 : 0 ≤ nth zs i) : i = j := by
  rcases Nat.lt_trichotomy i j with h1 | h1 | h1
  · exact absurd e ((h j hj).2 (by omega) i h1)
  · exact h1
  · exact absurd e.symm ((h i hi).2 h0 j h1)

def turnL (zs : List Int) : List Int := (List.range zs.length).map fun i => nth zs ((i + zs.length - 1) % zs.length)
/-- A table turned by a slot, whose Plus is one greater. -/
def turn (T : Tab) : Tab := ⟨T.t, T.p + 1, turnL T.zs⟩
theorem turnL_len (zs : List Int) : (turnL zs).length = zs.length := by simp [turnL]
theorem turn_len (T : Tab) : (turn T).zs.length = T.zs.length := turnL_len _
theorem turnL_nth {zs : List Int} {i : Nat} (hi : i < zs.length) : nth (turnL zs) i = nth zs ((i + zs.length - 1) % zs.length) := by
  simp [nth, turnL, hi]
theorem turn_back {i n : Nat} (hi : i < n) : ((i + 1) % n + n - 1) % n = i := by
  have h1 := nadd (b := 1) hi (by omega)
  rw [h1]
  split
  · rw [show i + 1 + n - 1 = i + n by omega, Nat.add_mod_right, Nat.mod_eq_of_lt hi]
  · rw [show i + 1 - n + n - 1 = i by omega, Nat.mod_eq_of_lt hi]
theorem turn_on {i n : Nat} (hi : i < n) : ((i + n - 1) % n + 1) % n = i := by
  by_cases h : i = 0
  · subst h
    rw [show 0 + n - 1 = n - 1 by omega, Nat.mod_eq_of_lt (show n - 1 < n by omega), show n - 1 + 1 = n by omega, Nat.mod_self]
  · rw [show i + n - 1 = (i - 1) + n by omega, Nat.add_mod_right, Nat.mod_eq_of_lt (show i - 1 < n by omega), show i - 1 + 1 = i by omega, Nat.mod_eq_of_lt hi]
theorem turnL_succ {zs : List Int} {i : Nat} (hi : i < zs.length) : nth (turnL zs) ((i + 1) % zs.length) = nth zs i := by
  rw [turnL_nth (Nat.mod_lt _ (by omega)), turn_back hi]

theorem turn_valid {T : Tab} (h : validB T = true) (hp : T.p < 15) : validB (turn T) = true := by
  obtain ⟨⟨l1, l2⟩, ⟨t1, t2⟩, ⟨p1, p2⟩, hg⟩ := valid_facts h
  rw [validB_iff]
  refine ⟨?_, fun i hi => ?_⟩
  · show headB _ T.t (T.p + 1) = true
    rw [turn_len]
    simp only [headB, inB, Bool.and_eq_true, decide_eq_true_eq]
    omega
  · rw [turn_len] at hi
    have e : nth (turn T).zs i = _ := turnL_nth hi
    have m1 : (i + T.zs.length - 1) % T.zs.length < T.zs.length := Nat.mod_lt _ (by omega)
    rw [e]
    refine ⟨(hg _ m1).1, fun h0 j hj e2 => ?_⟩
    have e3 : nth (turn T).zs j = _ := turnL_nth (show j < T.zs.length by omega)
    rw [e3] at e2
    have := hg.inj (Nat.mod_lt _ (by omega)) m1 e2 (by rw [e2]; exact h0)
    have h1 := turn_on hi
    have h2 := turn_on (show j < T.zs.length by omega)
    rw [this] at h2
    omega

theorem turn_home (T : Tab) (key : Int) : homeI (turn T) key = (homeI T key + 1) % T.zs.length := by
  unfold homeI
  rw [turn_len, Int.emod_add_emod]
  show (T.t * key + (T.p + 1)) % _ = _
  rw [← Int.add_assoc]

theorem turn_homeOf {T : Tab} {key : Int} (h : validB T = true) (hp : T.p < 15) (hk : inB key 0 99 = true) : homeOf (turn T) key = (homeOf T key + 1) % T.zs.length := by
  rw [← homeOf_yes h hk, ← homeOf_yes (turn_valid h hp) hk, turn_home]

theorem ring_turn (a b n : Int) : ((a + 1) % n - (b + 1) % n) % n = (a - b) % n := by
  rw [← Int.sub_emod, show a + 1 - (b + 1) = a - b by omega]

theorem turn_away {T : Tab} (h : validB T = true) (hp : T.p < 15) {i : Nat} (hi : i < T.zs.length) : awayOf (turn T) (((i + 1) % T.zs.length : Nat) : Int) = awayOf T i := by
  have hn := turn_len T
  have m : (i + 1) % T.zs.length < T.zs.length := Nat.mod_lt _ (by omega)
  have e : nth (turn T).zs ((i + 1) % T.zs.length) = nth T.zs i := turnL_succ hi
  by_cases h0 : 0 ≤ nth T.zs i
  · rw [← awayOf_yes h hi rfl h0, ← awayOf_yes (turn_valid h hp) (by omega) e h0, turn_home, hn]
    have := ring_turn i (homeI T (nth T.zs i)) T.zs.length
    rw [← this]
    congr 2
  · rw [← awayOf_no (T := T) (slot := (i : Int)) (.inr (.inr (by rw [Int.toNat_natCast]; omega))), ← awayOf_no (T := turn T) (slot := (((i + 1) % T.zs.length : Nat) : Int)) (.inr (.inr (by rw [Int.toNat_natCast, e]; omega)))]

/-- What is known of a key's home. -/
theorem homeOf_cases (T : Tab) (key : Int) : (homeOf T key = -1 ∧ (validB T = false ∨ inB key 0 99 = false)) ∨ (homeOf T key = homeI T key ∧ validB T = true ∧ (0 ≤ key ∧ key ≤ 99) ∧ 0 ≤ homeI T key ∧ homeI T key < T.zs.length) := by
  cases hv : validB T
  · exact .inl ⟨(homeOf_no (.inl hv)).symm, .inl rfl⟩
  · cases hk : inB key 0 99
    · exact .inl ⟨(homeOf_no (.inr hk)).symm, .inr rfl⟩
    · exact .inr ⟨(homeOf_yes hv hk).symm, rfl, inB_iff.1 hk, homeI_bounds hv key⟩

theorem home_rest (T : Tab) (key : Int) : (T.t * key + T.p - homeI T key) % T.zs.length = 0 := by
  unfold homeI
  rw [← Int.emod_eq_emod_iff_emod_sub_eq_zero]
  simp

theorem home_apart (T : Tab) (key : Int) : (T.zs.length : Int) ∣ (homeI T (key + 1) - homeI T key - T.t) := by
  unfold homeI
  apply Int.dvd_of_emod_eq_zero
  rw [Int.sub_emod, ← Int.sub_emod (T.t * (key + 1) + T.p) (T.t * key + T.p), ← Int.sub_emod]
  have : T.t * (key + 1) + T.p - (T.t * key + T.p) - T.t = 0 := by rw [Int.mul_add]; omega
  rw [this]; simp
theorem home_apart_t (T : Tab) (key : Int) : (homeI T (key + 1) - homeI T key - T.t).tmod T.zs.length = 0 := Int.tmod_eq_zero_of_dvd (home_apart T key)
theorem home_far (T : Tab) (key : Int) : homeI T (key + T.zs.length) = homeI T key := by
  unfold homeI
  rw [Int.mul_add, show T.t * key + T.t * T.zs.length + T.p = T.t * key + T.p + T.t * T.zs.length by omega, Int.add_mul_emod_self_right]

theorem away_back {a b n : Int} (a0 : 0 ≤ a) (a1 : a < n) : (b + (a - b) % n) % n = a := by
  rw [Int.add_emod_emod, show b + (a - b) = a by omega, Int.emod_eq_of_lt a0 a1]

/-- What is known of how far a slot lies from home. -/
theorem awayOf_cases (T : Tab) (slot : Int) : awayOf T slot = -1 ∨ ∃ (k : Nat) (x : Int), slot = k ∧ k < T.zs.length ∧ nth T.zs k = x ∧ 0 ≤ x ∧ x ≤ 99 ∧ validB T = true ∧ awayOf T slot = (k - homeI T x) % T.zs.length ∧ 0 ≤ awayOf T slot ∧ awayOf T slot < T.zs.length := by
  cases hv : validB T
  · exact .inl (awayOf_no (.inl hv)).symm
  · cases hs : inB slot 0 (T.zs.length - 1)
    · exact .inl (awayOf_no (.inr (.inl hs))).symm
    · obtain ⟨s0, s1⟩ := inB_iff.1 hs
      obtain ⟨k, rfl⟩ : ∃ k : Nat, slot = k := ⟨slot.toNat, by omega⟩
      by_cases h0 : 0 ≤ nth T.zs k
      · have hk : k < T.zs.length := by omega
        have hb := valid_slot hv hk
        have e := awayOf_yes hv hk rfl h0
        refine .inr ⟨k, _, rfl, hk, rfl, h0, hb.2, rfl, e.symm, ?_, ?_⟩
        · rw [← e]; exact Int.emod_nonneg _ (by omega)
        · rw [← e]; exact Int.emod_lt_of_pos _ (by omega)
      · exact .inl (awayOf_no (.inr (.inr (by simpa using h0)))).symm

end Go.Proofs.Ytojmjhojgfopaaa

namespace Go.Proofs.Ytojmjhojgfopaaa

theorem good_nodup {zs : List Int} (h : Good zs zs.length) : (zs.filter fun x => inB x 0 99).Nodup := by
  rw [List.nodup_iff_pairwise_ne, List.pairwise_filter]
  rw [List.pairwise_iff_getElem]
  intro i j hi hj hij h1 h2 e
  have hi' : nth zs i = zs[i] := by simp [nth, List.getElem?_eq_getElem hi]
  have hj' : nth zs j = zs[j] := by simp [nth, List.getElem?_eq_getElem hj]
  have h3 := (inB_iff.1 h1).1
  have := h.inj hi hj (by rw [hi', hj', e]) (by rw [hi']; exact h3)
  omega

theorem sortU_pairwise (zs : List Int) : (sortU zs).Pairwise (· < ·) := by
  unfold sortU sortTo
  rw [List.pairwise_map]
  refine List.Pairwise.filter _ ?_
  refine List.pairwise_lt_range.imp ?_
  intro a b h
  omega

theorem sortU_mem {zs : List Int} {x : Int} : x ∈ sortU zs ↔ (0 ≤ x ∧ x ≤ 99) ∧ x ∈ zs := by
  unfold sortU
  rw [mem_sortTo]
  constructor
  · rintro ⟨k, hk, rfl, h⟩
    rcases fnd_cases zs (k : Int) with ⟨h1, _⟩ | ⟨j, hj, _, h2, _⟩
    · omega
    · refine ⟨by omega, ?_⟩
      rw [← h2, nth, List.getElem?_eq_getElem hj]
      exact List.getElem_mem hj
  · rintro ⟨⟨h0, h1⟩, h⟩
    obtain ⟨k, rfl⟩ : ∃ k : Nat, x = k := ⟨x.toNat, by omega⟩
    refine ⟨k, by omega, rfl, ?_⟩
    rcases fnd_cases zs (k : Int) with ⟨_, h2⟩ | ⟨j, hj, e, _⟩
    · obtain ⟨i, hi, e⟩ := List.getElem_of_mem h
      exact absurd (by rw [nth, List.getElem?_eq_getElem hi]; simpa using e) (h2 i hi)
    · omega

theorem sort_keys {zs : List Int} (h : Good zs zs.length) : ((zs.filter fun x => inB x 0 99).mergeSort fun x y => decide (x ≤ y)) = sortU zs := by
  have hp := List.mergeSort_perm (zs.filter fun x => inB x 0 99) (fun x y => decide (x ≤ y))
  have hs := List.pairwise_mergeSort (le := fun x y : Int => decide (x ≤ y)) (fun a b c h1 h2 => by simp at *; omega) (fun a b => by simp; omega) (zs.filter fun x => inB x 0 99)
  have hu := sortU_pairwise zs
  have hperm : (zs.filter fun x => inB x 0 99).Perm (sortU zs) := by
    rw [List.perm_ext_iff_of_nodup (good_nodup h) (hu.imp fun h => by omega)]
    intro x
    rw [List.mem_filter, sortU_mem, inB_iff]
    exact And.comm
  refine List.Perm.eq_of_pairwise (le := fun x y : Int => decide (x ≤ y) = true) (fun a b _ _ h1 h2 => ?_) hs (hu.imp fun h => ?_) (hp.trans hperm)
  · simp at h1 h2; omega
  · simp; omega

end Go.Proofs.Ytojmjhojgfopaaa

namespace Go.Proofs.Ytojmjhojgfopaaa

/-- The slot to which one comes by i steps from h on. -/
def stepS (T : Tab) (h i : Nat) : Nat := (h + i) % T.zs.length
theorem stepS_lt {T : Tab} (hn : 1 ≤ T.zs.length) (h i : Nat) : stepS T h i < T.zs.length := Nat.mod_lt _ (by omega)

/-- A slot at which one stops who looks for a key. -/
def stopAt (T : Tab) (key : Int) (h i : Nat) : Bool := nth T.zs (stepS T h i) == -1 || nth T.zs (stepS T h i) == key

/-- How many of the first n steps are taken without a stop. -/
def goN (p : Nat → Bool) (n : Nat) : Nat := (List.range n).findIdx p
theorem goN_le (p : Nat → Bool) (n : Nat) : goN p n ≤ n := by
  have := List.findIdx_le_length (p := p) (xs := List.range n)
  simpa [goN] using this
theorem goN_free {p : Nat → Bool} {n j : Nat} (hj : j < goN p n) : p j = false := by
  have h1 := goN_le p n
  have h2 := List.not_of_lt_findIdx (p := p) (xs := List.range n) (i := j) hj
  simpa using h2
theorem goN_stop {p : Nat → Bool} {n : Nat} (h : goN p n < n) : p (goN p n) = true := by
  have h2 := List.findIdx_getElem (p := p) (xs := List.range n) (w := by simpa [goN] using h)
  simpa [goN] using h2
theorem goN_eq {p : Nat → Bool} {n i : Nat} (hi : i < n) (h : ∀ j, j < i → p j = false) (hp : p i = true) : goN p n = i := by
  have h1 := goN_le p n
  rcases Nat.lt_trichotomy (goN p n) i with h2 | h2 | h2
  · have := goN_stop (p := p) (n := n) (by omega)
    rw [h _ h2] at this
    cases this
  · exact h2
  · have := goN_free (p := p) (n := n) h2
    rw [hp] at this
    cases this
theorem goN_all {p : Nat → Bool} {n : Nat} (h : ∀ j, j < n → p j = false) : goN p n = n := by
  have h1 := goN_le p n
  by_cases h2 : goN p n < n
  · have := goN_stop h2
    rw [h _ h2] at this
    cases this
  · omega

/-- How many slots are visited to find a key: the last one included. -/
def visN (T : Tab) (key : Int) (h : Nat) : Nat := min (goN (stopAt T key h) T.zs.length + 1) T.zs.length
theorem visN_stop {T : Tab} {key : Int} {h i : Nat} (hi : i < T.zs.length) (hf : ∀ j, j < i → stopAt T key h j = false) (hp : stopAt T key h i = true) : visN T key h = i + 1 := by
  unfold visN
  rw [goN_eq hi hf hp]
  omega
theorem visN_all {T : Tab} {key : Int} {h : Nat} (hf : ∀ j, j < T.zs.length → stopAt T key h j = false) : visN T key h = T.zs.length := by
  unfold visN
  rw [goN_all hf]
  omega
theorem visN_bounds {T : Tab} (hn : 1 ≤ T.zs.length) (key : Int) (h : Nat) : 1 ≤ visN T key h ∧ visN T key h ≤ T.zs.length := by
  unfold visN
  omega

/-- The slots of the first k steps. -/
def wayTo (T : Tab) (h k : Nat) : List Int := (List.range k).map fun i => (stepS T h i : Int)
theorem wayTo_succ (T : Tab) (h k : Nat) : wayTo T h (k + 1) = wayTo T h k ++ [(stepS T h k : Int)] := by
  simp [wayTo, List.range_succ]
theorem wayTo_len (T : Tab) (h k : Nat) : (wayTo T h k).length = k := by simp [wayTo]
theorem wayTo_nth {T : Tab} {h k i : Nat} (hi : i < k) : nth (wayTo T h k) i = stepS T h i := by
  simp [nth, wayTo, hi]

def homeN (T : Tab) (key : Int) : Nat := (homeI T key).toNat
theorem homeN_eq {T : Tab} (h : validB T = true) (key : Int) : (homeN T key : Int) = homeI T key := by
  have := homeI_bounds h key
  unfold homeN
  omega
theorem homeN_lt {T : Tab} (h : validB T = true) (key : Int) : homeN T key < T.zs.length := by
  have := homeI_bounds h key
  unfold homeN
  omega

/-- The slots that are visited for a key. -/
def wayOf (T : Tab) (key : Int) : List Int := wayTo T (homeN T key) (visN T key (homeN T key))
/-- The last slot that is visited for a key. -/
def lastOf (T : Tab) (key : Int) : Nat := stepS T (homeN T key) (visN T key (homeN T key) - 1)
/-- The slot where a key is found, or -1. -/
def findI (T : Tab) (key : Int) : Int := if nth T.zs (lastOf T key) = key then lastOf T key else -1

/-- FindKey, VisitsFor, LostKeys, IsSound, PlaceFor of the document. -/
def findOf (T : Tab) (key : Int) : Int := if validB T && inB key 0 99 then findI T key else -1
def visOf (T : Tab) (key : Int) : Int := if validB T && inB key 0 99 then visN T key (homeN T key) else -1
def lostOf (T : Tab) : List Int := if validB T then (sortU T.zs).filter (fun k => decide (findI T k < 0)) else []
def soundB (T : Tab) : Bool := validB T && decide (lostOf T = [])
/-- The first slot of a way that is free or a tomb, or -1. -/
def firstLow (zs : List Int) (way : List Int) : Int := ((way.find? fun k => decide (nth zs k.toNat < 0)).getD (-1))
def placeI (T : Tab) (key : Int) : Int := if validB T && inB key 0 99 && decide (findI T key < 0) then firstLow T.zs (wayOf T key) else -1

theorem lastOf_lt {T : Tab} (hn : 1 ≤ T.zs.length) (key : Int) : lastOf T key < T.zs.length := stepS_lt hn _ _
theorem findI_bounds {T : Tab} (hn : 1 ≤ T.zs.length) (key : Int) : -1 ≤ findI T key ∧ findI T key < T.zs.length := by
  have := lastOf_lt hn key
  unfold findI
  split <;> omega

end Go.Proofs.Ytojmjhojgfopaaa

namespace Go.Proofs.Ytojmjhojgfopaaa

theorem vis_free {T : Tab} {key : Int} {h i : Nat} (hi : i < visN T key h - 1) : stopAt T key h i = false :=
  goN_free (n := T.zs.length) (by unfold visN at hi; omega)
theorem stop_no {T : Tab} {key : Int} {h i : Nat} (hs : stopAt T key h i = false) : nth T.zs (stepS T h i) ≠ -1 ∧ nth T.zs (stepS T h i) ≠ key := by
  simpa [stopAt] using hs
theorem stop_is {T : Tab} {key : Int} {h i : Nat} (h1 : nth T.zs (stepS T h i) ≠ -1) (h2 : nth T.zs (stepS T h i) ≠ key) : stopAt T key h i = false := by
  simp [stopAt, h1, h2]
theorem stop_key {T : Tab} {key : Int} {h i : Nat} (h1 : nth T.zs (stepS T h i) = key) : stopAt T key h i = true := by
  simp [stopAt, h1]
theorem stop_free {T : Tab} {key : Int} {h i : Nat} (h1 : nth T.zs (stepS T h i) = -1) : stopAt T key h i = true := by
  simp [stopAt, h1]
theorem find_yes {T : Tab} {key : Int} (h : 0 ≤ findI T key) : findI T key = lastOf T key ∧ nth T.zs (lastOf T key) = key := by
  unfold findI at h ⊢
  split at h
  · rename_i h1
    exact ⟨if_pos h1, h1⟩
  · omega
theorem find_no {T : Tab} {key : Int} (h : findI T key < 0) : findI T key = -1 ∧ nth T.zs (lastOf T key) ≠ key := by
  unfold findI at h ⊢
  split at h
  · omega
  · rename_i h1
    exact ⟨if_neg h1, h1⟩
/-- A slot as a number of steps from another one. -/
theorem step_away {T : Tab} {h k : Nat} (hh : h < T.zs.length) (hk : k < T.zs.length) : stepS T h ((k + T.zs.length - h) % T.zs.length) = k ∧ (k + T.zs.length - h) % T.zs.length < T.zs.length := by
  refine ⟨?_, Nat.mod_lt _ (by omega)⟩
  rw [stepS, Nat.add_mod_mod, show h + (k + T.zs.length - h) = k + T.zs.length by omega, Nat.add_mod_right, Nat.mod_eq_of_lt hk]
theorem step_inj {T : Tab} {h i j : Nat} (hh : h < T.zs.length) (hi : i < T.zs.length) (hj : j < T.zs.length) (e : stepS T h i = stepS T h j) : i = j := by
  unfold stepS at e
  rw [nadd hh (by omega), nadd hh (by omega)] at e
  split at e <;> split at e <;> omega
/-- The steps from the home of a key to where it is. -/
theorem away_step {T : Tab} (hv : validB T = true) {j : Nat} {x : Int} (hj : j < T.zs.length) (hx : nth T.zs (stepS T (homeN T x) j) = x) (h0 : 0 ≤ x) : awayOf T (stepS T (homeN T x) j : Nat) = j := by
  obtain ⟨⟨l1, _⟩, _⟩ := valid_facts hv
  have hh := homeN_lt hv x
  have e := homeN_eq hv x
  rw [← awayOf_yes hv (stepS_lt l1 _ _) hx h0, ← e]
  have hl := stepS_lt (T := T) l1 (homeN T x) j
  rw [wsub (by omega) (by omega) (by omega) (by omega)]
  unfold stepS at hl ⊢
  rw [nadd hh (by omega)]
  split <;> split <;> omega

theorem last_away {T : Tab} {key : Int} (hv : validB T = true) (h0 : 0 ≤ key) (hf : nth T.zs (lastOf T key) = key) : awayOf T (lastOf T key : Nat) = (visN T key (homeN T key) : Int) - 1 := by
  obtain ⟨⟨l1, _⟩, _⟩ := valid_facts hv
  have hb := visN_bounds l1 key (homeN T key)
  have := away_step hv (j := visN T key (homeN T key) - 1) (by omega) hf h0
  unfold lastOf
  rw [this]
  omega
theorem last_free {T : Tab} {key : Int} (hf : nth T.zs (lastOf T key) ≠ key) : nth T.zs (lastOf T key) = -1 ∨ visN T key (homeN T key) = T.zs.length := by
  by_cases h : goN (stopAt T key (homeN T key)) T.zs.length < T.zs.length
  · left
    have h1 := goN_stop h
    have h2 : visN T key (homeN T key) - 1 = goN (stopAt T key (homeN T key)) T.zs.length := by unfold visN; omega
    unfold lastOf at hf ⊢
    rw [h2] at hf ⊢
    simp only [stopAt, Bool.or_eq_true, beq_iff_eq] at h1
    rcases h1 with h1 | h1
    · exact h1
    · exact absurd h1 hf
  · right
    have h1 := goN_le (stopAt T key (homeN T key)) T.zs.length
    unfold visN
    omega
theorem last_cast {T : Tab} (hv : validB T = true) (key : Int) : (homeI T key + (visN T key (homeN T key) : Int) - 1) % (T.zs.length : Int) = (lastOf T key : Int) := by
  obtain ⟨⟨l1, _⟩, _⟩ := valid_facts hv
  have hb := visN_bounds l1 key (homeN T key)
  rw [← homeN_eq hv key, lastOf, stepS, Int.natCast_emod]
  congr 1
  omega

/-- Where a key is found: the steps to it. -/
theorem find_at {T : Tab} {key : Int} {j : Nat} (hj : j < T.zs.length) (hf : ∀ i, i < j → stopAt T key (homeN T key) i = false) (hx : nth T.zs (stepS T (homeN T key) j) = key) (_h0 : 0 ≤ key) :
    visN T key (homeN T key) = j + 1 ∧ lastOf T key = stepS T (homeN T key) j ∧ findI T key = stepS T (homeN T key) j := by
  have h1 := visN_stop hj hf (stop_key hx)
  have h2 : lastOf T key = stepS T (homeN T key) j := by rw [lastOf, h1]; rfl
  refine ⟨h1, h2, ?_⟩
  unfold findI
  rw [h2, if_pos hx]
/-- A key that lies in a table behind no free slot is found. -/
theorem found_iff {T : Tab} {key : Int} (hv : validB T = true) {j : Nat} (hj : j < T.zs.length) (hx : nth T.zs (stepS T (homeN T key) j) = key) (h0 : 0 ≤ key) :
    0 ≤ findI T key ↔ ∀ i, i < j → nth T.zs (stepS T (homeN T key) i) ≠ -1 := by
  obtain ⟨⟨l1, _⟩, _, _, hg⟩ := valid_facts hv
  have hh := homeN_lt hv key
  have hne : ∀ i, i < j → nth T.zs (stepS T (homeN T key) i) ≠ key := fun i hi e => by
    have := hg.inj (stepS_lt l1 _ _) (stepS_lt l1 _ _) (e.trans hx.symm) (by rw [e]; exact h0)
    have := step_inj hh (by omega) hj this
    omega
  constructor
  · intro hf i hi e
    obtain ⟨_, h2⟩ := find_yes hf
    have hb := visN_bounds l1 key (homeN T key)
    have h3 : visN T key (homeN T key) - 1 = j := by
      refine step_inj hh (by omega) hj (hg.inj (stepS_lt l1 _ _) (stepS_lt l1 _ _) ?_ ?_)
      · rw [hx]; exact h2
      · exact (show (0 : Int) ≤ nth T.zs (lastOf T key) by rw [h2]; exact h0)
    exact (stop_no (vis_free (T := T) (key := key) (h := homeN T key) (i := i) (by omega))).1 e
  · intro hf
    obtain ⟨_, _, h3⟩ := find_at hj (fun i hi => stop_is (hf i hi) (hne i hi)) hx h0
    omega

theorem low_get {zs way : List Int} (h : 0 ≤ firstLow zs way) : ∃ j, j < way.length ∧ firstLow zs way = nth way j ∧ nth zs (nth way j).toNat < 0 ∧ ∀ i, i < j → 0 ≤ nth zs (nth way i).toNat := by
  induction way with
  | nil => simp [firstLow] at h
  | cons x way ih =>
    by_cases hx : nth zs x.toNat < 0
    · refine ⟨0, by simp, ?_, by simpa [nth] using hx, fun i hi => by omega⟩
      unfold firstLow
      rw [List.find?_cons_of_pos (by simpa using hx)]
      simp [nth]
    · have e : firstLow zs (x :: way) = firstLow zs way := by
        unfold firstLow
        rw [List.find?_cons_of_neg (by simpa using hx)]
      rw [e] at h ⊢
      obtain ⟨j, h1, h2, h3, h4⟩ := ih h
      refine ⟨j + 1, by simpa using h1, by simpa [nth] using h2, by simpa [nth] using h3, fun i hi => ?_⟩
      cases i with
      | zero => simpa [nth] using hx
      | succ i => simpa [nth] using h4 i (by omega)
theorem low_not {zs way : List Int} (h : firstLow zs way < 0) (hw : ∀ i, i < way.length → 0 ≤ nth way i) : ∀ i, i < way.length → 0 ≤ nth zs (nth way i).toNat := by
  induction way with
  | nil => intro i hi; simp at hi
  | cons x way ih =>
    by_cases hx : nth zs x.toNat < 0
    · have h0 := hw 0 (by simp)
      unfold firstLow at h
      rw [List.find?_cons_of_pos (by simpa using hx)] at h
      simp [nth] at h h0
      omega
    · have e : firstLow zs (x :: way) = firstLow zs way := by
        unfold firstLow
        rw [List.find?_cons_of_neg (by simpa using hx)]
      rw [e] at h
      intro i hi
      cases i with
      | zero => simpa [nth] using hx
      | succ i => simpa [nth] using ih h (fun k hk => by simpa [nth] using hw (k + 1) (by simp; omega)) i (by simpa using hi)

theorem place_asked {T : Tab} {key : Int} (h : 0 ≤ placeI T key) : validB T = true ∧ (0 ≤ key ∧ key ≤ 99) ∧ findI T key < 0 ∧ placeI T key = firstLow T.zs (wayOf T key) := by
  unfold placeI at h ⊢
  split at h
  · rename_i h1
    rw [if_pos h1]
    simp only [Bool.and_eq_true, decide_eq_true_eq] at h1
    exact ⟨h1.1.1, inB_iff.1 h1.1.2, h1.2, rfl⟩
  · omega
/-- A place for a key: the first slot on its way that holds none. -/
theorem place_yes {T : Tab} {key : Int} (h : 0 ≤ placeI T key) : ∃ j, j < visN T key (homeN T key) ∧ placeI T key = stepS T (homeN T key) j ∧ nth T.zs (stepS T (homeN T key) j) < 0 ∧ ∀ i, i < j → 0 ≤ nth T.zs (stepS T (homeN T key) i) := by
  obtain ⟨_, _, _, e⟩ := place_asked h
  rw [e] at h
  obtain ⟨j, h1, h2, h3, h4⟩ := low_get h
  rw [wayOf, wayTo_len] at h1
  rw [wayOf, wayTo_nth h1] at h2 h3
  refine ⟨j, h1, by rw [e]; exact h2, by simpa using h3, fun i hi => ?_⟩
  have := h4 i hi
  rw [wayOf, wayTo_nth (by omega)] at this
  simpa using this
theorem placeI_low {T : Tab} {key : Int} (h : placeI T key < 0) : placeI T key = -1 := by
  unfold placeI at h ⊢
  split
  · rename_i h1
    rw [if_pos h1] at h
    unfold firstLow at h ⊢
    cases hc : List.find? (fun k => decide (nth T.zs k.toNat < 0)) (wayOf T key) with
    | none => rfl
    | some v =>
      rw [hc] at h
      obtain ⟨i, hi, e⟩ := List.getElem_of_mem (List.mem_of_find?_eq_some hc)
      rw [wayOf, wayTo_len] at hi
      have := wayTo_nth (T := T) (h := homeN T key) hi
      rw [nth] at this
      have e2 : (wayOf T key)[i]? = some v := by rw [List.getElem?_eq_getElem (by rw [wayOf, wayTo_len]; exact hi), e]
      rw [wayOf] at e2
      rw [e2] at this
      simp at this h
      omega
  · rfl
/-- No place for a key that is not there: no slot is free or a tomb. -/
theorem place_no {T : Tab} {key : Int} (hv : validB T = true) (hk : 0 ≤ key ∧ key ≤ 99) (hf : findI T key < 0) (h : placeI T key < 0) : ∀ i, i < T.zs.length → 0 ≤ nth T.zs i := by
  have e : placeI T key = firstLow T.zs (wayOf T key) := by
    unfold placeI
    rw [if_pos (by simp [hv, inB, hk, hf])]
  rw [e] at h
  have hh := homeN_lt hv key
  have h1 := low_not h (fun i hi => by
    rw [wayOf, wayTo_len] at hi
    rw [wayOf, wayTo_nth hi]; omega)
  have h2 : ∀ i, i < visN T key (homeN T key) → 0 ≤ nth T.zs (stepS T (homeN T key) i) := fun i hi => by
    have := h1 i (by rw [wayOf, wayTo_len]; exact hi)
    rw [wayOf, wayTo_nth hi] at this
    simpa using this
  obtain ⟨⟨l1, _⟩, _⟩ := valid_facts hv
  have hb := visN_bounds l1 key (homeN T key)
  have h3 : visN T key (homeN T key) = T.zs.length := by
    rcases last_free (find_no hf).2 with h3 | h3
    · have := h2 (visN T key (homeN T key) - 1) (by omega)
      unfold lastOf at h3
      omega
    · exact h3
  intro i hi
  obtain ⟨e1, e2⟩ := step_away hh hi
  have := h2 _ (by rw [h3]; exact e2)
  rwa [e1] at this

end Go.Proofs.Ytojmjhojgfopaaa

namespace Go.Proofs.Ytojmjhojgfopaaa

/-- The first slot of some steps that is free or a tomb, or -1. -/
def lookPl (T : Tab) (h : Nat) (pre : List Nat) : Int := ((pre.find? fun i => decide (nth T.zs (stepS T h i) < 0)).map fun i => (stepS T h i : Int)).getD (-1)
theorem lookPl_nil (T : Tab) (h : Nat) : lookPl T h [] = -1 := rfl
theorem lookPl_keep {T : Tab} {h : Nat} {pre : List Nat} {i : Nat} (hc : 0 ≤ lookPl T h pre ∨ 0 ≤ nth T.zs (stepS T h i)) : lookPl T h (pre ++ [i]) = lookPl T h pre := by
  unfold lookPl at *
  rw [List.find?_append]
  cases hf : pre.find? fun i => decide (nth T.zs (stepS T h i) < 0) with
  | some j => simp
  | none =>
    rcases hc with hc | hc
    · rw [hf] at hc; simp at hc
    · have : ¬ nth T.zs (stepS T h i) < 0 := by omega
      simp [this]
theorem lookPl_new {T : Tab} {h : Nat} {pre : List Nat} {i : Nat} (h1 : lookPl T h pre < 0) (h2 : nth T.zs (stepS T h i) < 0) : lookPl T h (pre ++ [i]) = stepS T h i := by
  unfold lookPl at *
  rw [List.find?_append]
  cases hf : pre.find? fun i => decide (nth T.zs (stepS T h i) < 0) with
  | some j => rw [hf] at h1; simp at h1; omega
  | none => simp [h2]
theorem lookPl_bounds {T : Tab} (hn : 1 ≤ T.zs.length) (h : Nat) (pre : List Nat) : -1 ≤ lookPl T h pre ∧ lookPl T h pre < T.zs.length := by
  unfold lookPl
  cases pre.find? fun i => decide (nth T.zs (stepS T h i) < 0) with
  | some j => have := stepS_lt hn h j; simp; omega
  | none => simp; omega
theorem firstLow_way (T : Tab) (h k : Nat) : firstLow T.zs (wayTo T h k) = lookPl T h (List.range k) := by
  unfold firstLow wayTo lookPl
  rw [List.find?_map]
  congr 2

/-- No step of these stops. -/
def Free' (T : Tab) (key : Int) (h : Nat) (pre : List Nat) : Prop := ∀ i, i ∈ pre → stopAt T key h i = false
theorem Free'.nil (T : Tab) (key : Int) (h : Nat) : Free' T key h [] := fun _ h => (by cases h)
theorem Free'.snoc {T : Tab} {key : Int} {h : Nat} {pre : List Nat} {i : Nat} (hp : Free' T key h pre) (hi : stopAt T key h i = false) : Free' T key h (pre ++ [i]) := by
  intro j hj
  rcases List.mem_append.1 hj with h1 | h1
  · exact hp j h1
  · obtain rfl := List.mem_singleton.1 h1; exact hi

theorem range_snoc {k : Nat} {pre : List Nat} {x : Nat} (h : List.range k = pre ++ [x]) : k = x + 1 ∧ pre = List.range x := by
  cases k with
  | zero => simp at h
  | succ k =>
    rw [List.range_succ] at h
    obtain ⟨h1, h2⟩ := List.append_inj' h rfl
    simp at h2
    subst h2
    exact ⟨rfl, h1.symm⟩

/-- What the search has found where it stops at the last of some steps. -/
theorem look_stop {T : Tab} {key : Int} {h k x : Nat} {pre : List Nat} (hh : homeN T key = h) (hk : k ≤ T.zs.length) (he : List.range k = pre ++ [x]) (hf : Free' T key h pre) (hs : stopAt T key h x = true) :
    visN T key (homeN T key) = (pre ++ [x]).length ∧ lastOf T key = stepS T h x ∧ wayOf T key = wayTo T h k ∧ List.range k = pre ++ [x] := by
  obtain ⟨rfl, rfl⟩ := range_snoc he
  have hv : visN T key h = x + 1 := visN_stop (by omega) (fun j hj => hf j (List.mem_range.2 hj)) hs
  subst hh
  refine ⟨by rw [hv]; simp, by rw [lastOf, hv]; rfl, by rw [wayOf, hv], he⟩
theorem look_found {T : Tab} {key : Int} {h k x : Nat} {pre : List Nat} (hh : homeN T key = h) (hk : k ≤ T.zs.length) (he : List.range k = pre ++ [x]) (hf : Free' T key h pre) (hs : nth T.zs (stepS T h x) = key) :
    visN T key (homeN T key) = (pre ++ [x]).length ∧ findI T key = stepS T h x := by
  obtain ⟨h1, h2, _, _⟩ := look_stop hh hk he hf (by simp [stopAt, hs])
  exact ⟨h1, by rw [findI, h2, if_pos hs]⟩
theorem look_free {T : Tab} {key : Int} {h k x : Nat} {pre : List Nat} (h0 : 0 ≤ key) (hh : homeN T key = h) (hk : k ≤ T.zs.length) (he : List.range k = pre ++ [x]) (hf : Free' T key h pre) (hs : nth T.zs (stepS T h x) = -1) :
    visN T key (homeN T key) = (pre ++ [x]).length ∧ findI T key = -1 ∧ firstLow T.zs (wayOf T key) = lookPl T h (pre ++ [x]) := by
  obtain ⟨h1, h2, h3, h4⟩ := look_stop hh hk he hf (by simp [stopAt, hs])
  refine ⟨h1, by rw [findI, h2, hs, if_neg (by omega)], ?_⟩
  rw [h3, firstLow_way, h4]
theorem look_none {T : Tab} {key : Int} {h : Nat} {pre : List Nat} (hn : 1 ≤ T.zs.length) (hh : homeN T key = h) (he : pre = List.range T.zs.length) (hf : Free' T key h pre) :
    visN T key (homeN T key) = pre.length ∧ findI T key = -1 ∧ firstLow T.zs (wayOf T key) = lookPl T h pre := by
  subst he
  have hv : visN T key h = T.zs.length := visN_all fun j hj => hf j (List.mem_range.2 hj)
  subst hh
  refine ⟨by rw [hv]; simp, ?_, by rw [wayOf, hv, firstLow_way]⟩
  have h2 : lastOf T key = stepS T (homeN T key) (T.zs.length - 1) := by rw [lastOf, hv]
  have := hf (T.zs.length - 1) (List.mem_range.2 (by omega))
  simp only [stopAt, Bool.or_eq_false_iff, beq_eq_false_iff_ne, ne_eq] at this
  rw [findI, h2, if_neg this.2]

end Go.Proofs.Ytojmjhojgfopaaa

namespace Go.Proofs.Ytojmjhojgfopaaa

theorem nth_set {zs : List Int} {k : Nat} (hk : k < zs.length) (x : Int) (i : Nat) : nth (zs.set k x) i = if i = k then x else nth zs i := by
  unfold nth
  rw [List.getElem?_set]
  by_cases h : k = i
  · subst h; simp [hk]
  · simp [h, Ne.symm h]

/-- A table is sound if all its keys are found. -/
theorem sound_all {T : Tab} : soundB T = true ↔ validB T = true ∧ ∀ i, i < T.zs.length → 0 ≤ nth T.zs i → 0 ≤ findI T (nth T.zs i) := by
  unfold soundB
  cases hv : validB T
  · simp
  · simp only [Bool.true_and, decide_eq_true_eq, true_and]
    rw [lostOf, if_pos hv, List.filter_eq_nil_iff]
    constructor
    · intro h i hi h0
      have h1 := h (nth T.zs i) (sortU_mem.2 ⟨⟨h0, (valid_slot hv hi).2⟩, by rw [nth, List.getElem?_eq_getElem hi]; exact List.getElem_mem hi⟩)
      simpa using h1
    · intro h x hx
      obtain ⟨⟨h0, _⟩, hm⟩ := sortU_mem.1 hx
      obtain ⟨i, hi, e⟩ := List.getElem_of_mem hm
      have e2 : nth T.zs i = x := by rw [nth, List.getElem?_eq_getElem hi, e]; rfl
      have := h i hi (by rw [e2]; exact h0)
      rw [e2] at this
      simpa using this

/-- A table with a key in a slot. -/
def putAt (T : Tab) (k : Nat) (x : Int) : Tab := ⟨T.t, T.p, T.zs.set k x⟩
theorem putAt_len (T : Tab) (k : Nat) (x : Int) : (putAt T k x).zs.length = T.zs.length := by simp [putAt]
theorem putAt_home (T : Tab) (k : Nat) (x y : Int) : homeN (putAt T k x) y = homeN T y := by simp [homeN, homeI, putAt]
theorem putAt_step (T : Tab) (k : Nat) (x : Int) (h i : Nat) : stepS (putAt T k x) h i = stepS T h i := by simp [stepS, putAt]

def putOk (T : Tab) (key : Int) : Bool := decide (0 ≤ placeI T key) && soundB T
def putT (T : Tab) (key : Int) : Tab := if putOk T key then putAt T (placeI T key).toNat key else ⟨0, 0, []⟩
def putVis (T : Tab) (key : Int) : Int := if putOk T key then visOf T key else -1

theorem putOk_parts {T : Tab} {key : Int} (h : putOk T key = true) : 0 ≤ placeI T key ∧ soundB T = true := by simpa [putOk] using h
theorem putPlace_lt {T : Tab} {key : Int} (h : 0 ≤ placeI T key) : (placeI T key).toNat < T.zs.length := by
  obtain ⟨hv, _⟩ := place_asked h
  obtain ⟨⟨l1, _⟩, _⟩ := valid_facts hv
  obtain ⟨j, _, e, _⟩ := place_yes h
  have := stepS_lt (T := T) l1 (homeN T key) j
  rw [e]; omega

structure PutSays (T : Tab) (key : Int) (k : Nat) : Prop where
  val : validB T = true
  lt : k < T.zs.length
  low : nth T.zs k < 0
  key0 : 0 ≤ key ∧ key ≤ 99
  val2 : validB (putAt T k key) = true
  find2 : findI (putAt T k key) key = k
  vis2 : visN (putAt T k key) key (homeN T key) ≤ visN T key (homeN T key)
  sound2 : soundB (putAt T k key) = true

theorem put_says {T : Tab} {key : Int} (h : putOk T key = true) : PutSays T key (placeI T key).toNat := by
  obtain ⟨hp, hs⟩ := putOk_parts h
  have hlt := putPlace_lt hp
  obtain ⟨hv, hk, hf, _⟩ := place_asked hp
  obtain ⟨j, hj, e, h1, h2⟩ := place_yes hp
  obtain ⟨⟨l1, l2⟩, ht, hpp, hg⟩ := valid_facts hv
  have hb := visN_bounds l1 key (homeN T key)
  have ek : (placeI T key).toNat = stepS T (homeN T key) j := by rw [e]; rfl
  rw [ek] at hlt ⊢
  have hno : ∀ i, i < T.zs.length → nth T.zs i ≠ key := fun i hi e => by
    have := (sound_all.1 hs).2 i hi (by rw [e]; exact hk.1)
    rw [e] at this
    omega
  generalize hkk : stepS T (homeN T key) j = k at hlt h1 ek ⊢
  have hnth := nth_set hlt key
  have hv2 : validB (putAt T k key) = true := by
    refine validB_iff.2 ⟨by simpa [putAt] using (validB_iff.1 hv).1, ?_⟩
    rw [putAt_len]
    intro i hi
    show inB (nth (T.zs.set k key) i) (-2) 99 = true ∧ (0 ≤ nth (T.zs.set k key) i → ∀ j, j < i → nth (T.zs.set k key) j ≠ nth (T.zs.set k key) i)
    rw [hnth]
    refine ⟨?_, fun h0 m hm => ?_⟩
    · split
      · exact inB_true ⟨by omega, hk.2⟩
      · exact (hg i hi).1
    · rw [hnth]
      split <;> split
      · omega
      · exact (hno i hi).symm
      · exact hno m (by omega)
      · rename_i hm2 hi2
        rw [if_neg hi2] at h0
        exact (hg i hi).2 h0 m hm
  have hst : ∀ i, i < j → nth T.zs (stepS T (homeN T key) i) = nth (putAt T k key).zs (stepS T (homeN T key) i) := fun i hi => by
    show _ = nth (T.zs.set k key) _
    rw [hnth, if_neg]
    intro e
    have := h2 i hi
    rw [e] at this
    omega
  have F := find_at (T := putAt T k key) (key := key) (j := j) (by rw [putAt_len]; omega) (fun i hi => by
    rw [putAt_home]
    refine stop_is ?_ ?_
    · rw [putAt_step, ← hst i hi]
      have := h2 i hi
      omega
    · rw [putAt_step, ← hst i hi]
      exact hno _ (stepS_lt l1 _ _)) (by
    rw [putAt_home, putAt_step, hkk]
    show nth (T.zs.set k key) k = key
    rw [hnth, if_pos rfl]) hk.1
  rw [putAt_home, putAt_step, hkk] at F
  refine ⟨hv, hlt, h1, hk, hv2, F.2.2, by rw [F.1]; omega, sound_all.2 ⟨hv2, fun i hi h0 => ?_⟩⟩
  rw [putAt_len] at hi
  by_cases hik : i = k
  · subst hik
    have e2 : nth (putAt T i key).zs i = key := by
      show nth (T.zs.set i key) i = key
      rw [hnth, if_pos rfl]
    rw [e2, F.2.2]
    omega
  · have e2 : nth (putAt T k key).zs i = nth T.zs i := by
      show nth (T.zs.set k key) i = _
      rw [hnth, if_neg hik]
    rw [e2] at h0 ⊢
    have hf0 := (sound_all.1 hs).2 i hi h0
    generalize hy : nth T.zs i = y at h0 hf0 e2 ⊢
    have hh := homeN_lt hv y
    obtain ⟨a1, a2⟩ := step_away hh hi
    rw [found_iff hv a2 (by rw [a1]; exact hy) h0] at hf0
    rw [found_iff (T := putAt T k key) hv2 (j := (i + T.zs.length - homeN T y) % T.zs.length) (by rw [putAt_len]; exact a2) (by rw [putAt_home, putAt_step, a1]; exact e2) h0]
    intro m hm
    rw [putAt_home, putAt_step]
    show nth (T.zs.set k key) _ ≠ -1
    rw [hnth]
    split
    · omega
    · exact hf0 m hm

/-- All slots are keys, tombs or free. -/
theorem cnt_all (zs : List Int) : cnt keyP zs zs.length + cnt tombP zs zs.length + cnt freeP zs zs.length = zs.length := by
  unfold cnt
  rw [List.take_length]
  induction zs with
  | nil => rfl
  | cons x zs ih =>
    simp only [List.countP_cons, List.length_cons]
    have : (if keyP x = true then 1 else 0) + (if tombP x = true then 1 else 0) + (if freeP x = true then 1 else 0) = 1 := by
      unfold keyP tombP freeP
      by_cases h1 : x = -1
      · subst h1; rfl
      · by_cases h2 : x = -2
        · subst h2; rfl
        · simp [h1, h2]
    omega
theorem cnt_none {p : Int → Bool} {zs : List Int} (h : ∀ i, i < zs.length → p (nth zs i) = false) : cnt p zs zs.length = 0 := by
  unfold cnt
  rw [List.take_length, List.countP_eq_zero]
  intro x hx
  obtain ⟨i, hi, e⟩ := List.getElem_of_mem hx
  have := h i hi
  rw [nth, List.getElem?_eq_getElem hi, e] at this
  simpa using this
/-- Where no slot is free or a tomb, all are keys. -/
theorem counts_full {T : Tab} (hv : validB T = true) (h : ∀ i, i < T.zs.length → 0 ≤ nth T.zs i) : countT T = 0 ∧ countF T = 0 ∧ countK T = T.zs.length := by
  have h1 : cnt tombP T.zs T.zs.length = 0 := cnt_none fun i hi => by
    have := h i hi
    simp [tombP]; omega
  have h2 : cnt freeP T.zs T.zs.length = 0 := cnt_none fun i hi => by
    have := h i hi
    simp [freeP]; omega
  have h3 := cnt_all T.zs
  simp only [countT, countF, countK, hv, if_true]
  omega

def loadOf (T : Tab) : Int := if validB T then 100 * (countK T + countT T) / T.zs.length else -1
/-- What a share of the slots says of their numbers. -/
theorem load_says {T : Tab} (hv : validB T = true) : 0 ≤ loadOf T ∧ loadOf T ≤ 100 ∧ (loadOf T = 100 ↔ countF T = 0) ∧ loadOf T * T.zs.length ≤ 100 * (countK T + countT T) ∧ 100 * (countK T + countT T) < (loadOf T + 1) * T.zs.length := by
  obtain ⟨⟨l1, l2⟩, _⟩ := valid_facts hv
  have h3 := cnt_all T.zs
  unfold loadOf
  simp only [countT, countF, countK, hv, if_true]
  generalize cnt keyP T.zs T.zs.length = a at h3 ⊢
  generalize cnt tombP T.zs T.zs.length = b at h3 ⊢
  generalize cnt freeP T.zs T.zs.length = c at h3 ⊢
  generalize T.zs.length = n at l1 l2 h3 ⊢
  have e1 := Int.emod_add_mul_ediv (100 * ((a : Int) + b)) n
  have e2 := Int.emod_nonneg (100 * ((a : Int) + b)) (b := (n : Int)) (by omega)
  have e3 := Int.emod_lt_of_pos (100 * ((a : Int) + b)) (b := (n : Int)) (by omega)
  generalize (100 * ((a : Int) + b)) % (n : Int) = r at e1 e2 e3
  generalize 100 * ((a : Int) + b) / (n : Int) = q at e1 ⊢
  rw [Int.mul_comm] at e1
  have hq0 : 0 ≤ q := by
    refine Int.not_lt.1 fun hq => ?_
    have := Int.mul_le_mul_of_nonneg_right (a := q) (b := -1) (c := (n : Int)) (by omega) (by omega)
    omega
  have hq1 : q ≤ 100 := by
    refine Int.not_lt.1 fun hq => ?_
    have := Int.mul_le_mul_of_nonneg_right (a := 101) (b := q) (c := (n : Int)) (by omega) (by omega)
    omega
  refine ⟨hq0, hq1, ⟨fun h => ?_, fun h => ?_⟩, by omega, by rw [Int.add_mul]; omega⟩
  · subst h; omega
  · refine Int.le_antisymm hq1 (Int.not_lt.1 fun hq => ?_)
    have := Int.mul_le_mul_of_nonneg_right (a := q) (b := 99) (c := (n : Int)) (by omega) (by omega)
    omega

end Go.Proofs.Ytojmjhojgfopaaa

namespace Go.Proofs.Ytojmjhojgfopaaa

theorem nth_map {f : Int → Int} {zs : List Int} {i : Nat} (hi : i < zs.length) : nth (zs.map f) i = f (nth zs i) := by
  simp [nth, hi]
theorem nth_ext {xs ys : List Int} (hl : xs.length = ys.length) (h : ∀ i, i < xs.length → nth xs i = nth ys i) : xs = ys := by
  refine List.ext_getElem hl fun i h1 h2 => ?_
  have := h i h1
  simpa [nth, h1, h2] using this
theorem mem_nth {zs : List Int} {x : Int} (h : x ∈ zs) : ∃ i, i < zs.length ∧ nth zs i = x := by
  obtain ⟨i, hi, e⟩ := List.getElem_of_mem h
  exact ⟨i, hi, by rw [nth, List.getElem?_eq_getElem hi, e]; rfl⟩
theorem nth_mem {zs : List Int} {i : Nat} (hi : i < zs.length) : nth zs i ∈ zs := by
  rw [nth, List.getElem?_eq_getElem hi]; exact List.getElem_mem hi

/-- A key of a sound table is found where it is. -/
theorem sound_find {T : Tab} (hs : soundB T = true) {i : Nat} (hi : i < T.zs.length) (h0 : 0 ≤ nth T.zs i) : findI T (nth T.zs i) = i := by
  obtain ⟨hv, hf⟩ := sound_all.1 hs
  obtain ⟨⟨l1, _⟩, _, _, hg⟩ := valid_facts hv
  obtain ⟨e1, e2⟩ := find_yes (hf i hi h0)
  rw [e1, hg.inj (lastOf_lt l1 _) hi e2 (by rw [e2]; exact h0)]
/-- A number that no slot holds is not found. -/
theorem none_find {T : Tab} (hv : validB T = true) {y : Int} (h : ∀ i, i < T.zs.length → nth T.zs i ≠ y) : findI T y = -1 := by
  obtain ⟨⟨l1, _⟩, _⟩ := valid_facts hv
  unfold findI
  rw [if_neg (h _ (lastOf_lt l1 _))]

/-- One table has the keys of another one where they are, and perhaps fewer. -/
structure Less (T U : Tab) : Prop where
  t : U.t = T.t
  p : U.p = T.p
  len : U.zs.length = T.zs.length
  at' : ∀ i, i < T.zs.length → nth U.zs i = nth T.zs i ∨ nth U.zs i = -2 ∨ nth U.zs i = -1

theorem Less.home {T U : Tab} (h : Less T U) (y : Int) : homeN U y = homeN T y := by simp [homeN, homeI, h.t, h.p, h.len]
theorem Less.step {T U : Tab} (h : Less T U) (a i : Nat) : stepS U a i = stepS T a i := by simp [stepS, h.len]
theorem Less.key {T U : Tab} (h : Less T U) {i : Nat} (hi : i < T.zs.length) (h0 : 0 ≤ nth U.zs i) : nth U.zs i = nth T.zs i := by
  rcases h.at' i hi with e | e | e
  · exact e
  · omega
  · omega
theorem Less.valid {T U : Tab} (h : Less T U) (hv : validB T = true) : validB U = true := by
  obtain ⟨h1, h2⟩ := validB_iff.1 hv
  refine validB_iff.2 ⟨by rw [h.len, h.t, h.p]; exact h1, ?_⟩
  rw [h.len]
  intro i hi
  obtain ⟨a, b⟩ := h2 i hi
  refine ⟨?_, fun h0 j hj e => ?_⟩
  · rcases h.at' i hi with e | e | e <;> rw [e]
    · exact a
    · rfl
    · rfl
  · have k1 := h.key hi h0
    have k2 := h.key (show j < T.zs.length by omega) (by rw [e]; exact h0)
    exact b (by rw [← k1]; exact h0) j hj (by rw [← k1, ← k2]; exact e)
/-- What remains is found if no slot ahead of it becomes free. -/
theorem Less.found {T U : Tab} (h : Less T U) (hs : soundB T = true) {i : Nat} (hi : i < T.zs.length) (h0 : 0 ≤ nth U.zs i)
    (hf : ∀ m, m < (i + T.zs.length - homeN T (nth T.zs i)) % T.zs.length → nth T.zs (stepS T (homeN T (nth T.zs i)) m) ≠ -1 → nth U.zs (stepS T (homeN T (nth T.zs i)) m) ≠ -1) : 0 ≤ findI U (nth U.zs i) := by
  obtain ⟨hv, hF⟩ := sound_all.1 hs
  have hv2 := h.valid hv
  have e2 := h.key hi h0
  rw [e2] at h0 ⊢
  have hf0 := hF i hi h0
  generalize hy : nth T.zs i = y at *
  have hh := homeN_lt hv y
  obtain ⟨a1, a2⟩ := step_away hh hi
  rw [found_iff hv a2 (by rw [a1]; exact hy) h0] at hf0
  rw [found_iff (T := U) hv2 (j := (i + T.zs.length - homeN T y) % T.zs.length) (by rw [h.len]; exact a2) (by rw [h.home, h.step, a1]; exact e2) h0]
  intro m hm
  rw [h.home, h.step]
  exact hf m hm (hf0 m hm)
theorem Less.sound {T U : Tab} (h : Less T U) (hs : soundB T = true) (hf : ∀ i, i < T.zs.length → nth U.zs i = nth T.zs i ∨ nth U.zs i = -2) : soundB U = true := by
  obtain ⟨hv, _⟩ := sound_all.1 hs
  obtain ⟨⟨l1, _⟩, _⟩ := valid_facts hv
  refine sound_all.2 ⟨h.valid hv, fun i hi h0 => ?_⟩
  rw [h.len] at hi
  refine h.found hs hi h0 fun m _ h1 => ?_
  rcases hf _ (stepS_lt l1 _ _) with e | e
  · rw [e]; exact h1
  · omega

/-- Some keys become tombs. -/
def dropL (ks zs : List Int) : List Int := zs.map fun z => if z ∈ ks then -2 else z
def dropAt (T : Tab) (ks : List Int) : Tab := ⟨T.t, T.p, dropL ks T.zs⟩
theorem dropL_len (ks zs : List Int) : (dropL ks zs).length = zs.length := by simp [dropL]
theorem dropL_nth {ks zs : List Int} {i : Nat} (hi : i < zs.length) : nth (dropL ks zs) i = if nth zs i ∈ ks then -2 else nth zs i := nth_map hi
theorem dropL_nil (zs : List Int) : dropL [] zs = zs := by simp [dropL]
theorem drop_less (T : Tab) (ks : List Int) : Less T (dropAt T ks) := ⟨rfl, rfl, dropL_len _ _, fun i hi => by
  show nth (dropL ks T.zs) i = _ ∨ nth (dropL ks T.zs) i = _ ∨ _
  rw [dropL_nth hi]
  split <;> simp⟩
theorem drop_sound {T : Tab} (hs : soundB T = true) (ks : List Int) : soundB (dropAt T ks) = true := (drop_less T ks).sound hs fun i hi => by
  show nth (dropL ks T.zs) i = _ ∨ nth (dropL ks T.zs) i = _
  rw [dropL_nth hi]
  split <;> simp
/-- A key more. -/
theorem dropL_snoc {ks zs : List Int} (hg : Good zs zs.length) {k : Nat} {x : Int} (h0 : 0 ≤ x) (hk : k < zs.length) (hx : nth (dropL ks zs) k = x) : dropL (ks ++ [x]) zs = (dropL ks zs).set k (-2) := by
  refine nth_ext (by simp [dropL]) fun i hi => ?_
  rw [dropL_len] at hi
  rw [dropL_nth hi, nth_set (by rw [dropL_len]; exact hk), dropL_nth hi]
  rw [dropL_nth hk] at hx
  split at hx
  · omega
  rename_i hkn
  by_cases hik : i = k
  · subst hik
    simp [hx]
  · rw [if_neg hik]
    have : nth zs i ≠ x := fun e => hik (hg.inj hi hk (e.trans hx.symm) (by rw [e]; exact h0))
    simp only [List.mem_append, List.mem_singleton, this, or_false]
theorem dropL_keep {ks zs : List Int} {x : Int} (h : ∀ i, i < zs.length → nth (dropL ks zs) i ≠ x) : dropL (ks ++ [x]) zs = dropL ks zs := by
  refine nth_ext (by simp [dropL]) fun i hi => ?_
  rw [dropL_len] at hi
  have hn := h i hi
  rw [dropL_nth hi] at hn ⊢
  rw [dropL_nth hi]
  by_cases hm : nth zs i ∈ ks
  · simp [hm]
  · rw [if_neg hm] at hn ⊢
    simp [hm, hn]
theorem drops_step {T : Tab} (hs : soundB T = true) (ks : List Int) {x : Int} (h0 : 0 ≤ x) :
    (∃ k : Nat, k < T.zs.length ∧ findI (dropAt T ks) x = k ∧ dropL (ks ++ [x]) T.zs = (dropL ks T.zs).set k (-2)) ∨ (findI (dropAt T ks) x = -1 ∧ dropL (ks ++ [x]) T.zs = dropL ks T.zs) := by
  obtain ⟨hv, _⟩ := sound_all.1 hs
  obtain ⟨⟨l1, _⟩, _, _, hg⟩ := valid_facts hv
  have hs2 := drop_sound hs ks
  obtain ⟨hv2, _⟩ := sound_all.1 hs2
  by_cases h : ∃ k, k < T.zs.length ∧ nth (dropL ks T.zs) k = x
  · obtain ⟨k, hk, e⟩ := h
    have := sound_find hs2 (i := k) (by simpa [dropAt, dropL] using hk) (by show 0 ≤ nth (dropL ks T.zs) k; omega)
    have e2 : nth (dropAt T ks).zs k = x := e
    rw [e2] at this
    exact .inl ⟨k, hk, this, dropL_snoc hg h0 hk e⟩
  · have h' : ∀ i, i < T.zs.length → nth (dropL ks T.zs) i ≠ x := fun i hi e => h ⟨i, hi, e⟩
    exact .inr ⟨none_find hv2 fun i hi => h' i (by simpa [dropAt, dropL] using hi), dropL_keep h'⟩

/-- DropKey and DropAll of the document. -/
def dropOk (T : Tab) (key : Int) : Bool := decide (0 ≤ findOf T key) && soundB T
def dropT (T : Tab) (key : Int) : Tab := if dropOk T key then dropAt T [key] else ⟨0, 0, []⟩
def keysB (ks : List Int) : Bool := decide (ks.length ≤ 100) && ks.all fun x => inB x 0 99
def dropsOk (T : Tab) (ks : List Int) : Bool := soundB T && keysB ks
def dropsT (T : Tab) (ks : List Int) : Tab := if dropsOk T ks then dropAt T ks else ⟨0, 0, []⟩

theorem dropT_no {T : Tab} {key : Int} (h : dropOk T key = false) : dropT T key = ⟨0, 0, []⟩ := by simp [dropT, h]
theorem dropT_yes {T : Tab} {key : Int} (h : dropOk T key = true) : dropT T key = dropAt T [key] := by simp [dropT, h]
theorem dropsT_no {T : Tab} {ks : List Int} (h : dropsOk T ks = false) : dropsT T ks = ⟨0, 0, []⟩ := by simp [dropsT, h]
theorem dropsT_yes {T : Tab} {ks : List Int} (h : dropsOk T ks = true) : dropsT T ks = dropAt T ks := by simp [dropsT, h]

structure DropSays (T : Tab) (key : Int) (k : Nat) : Prop where
  val : validB T = true
  snd : soundB T = true
  key0 : 0 ≤ key ∧ key ≤ 99
  lt : k < T.zs.length
  find : findOf T key = k ∧ findI T key = k
  here : nth T.zs k = key
  eq : dropT T key = putAt T k (-2) ∧ dropT T key = dropAt T [key]
  snd2 : soundB (putAt T k (-2)) = true
  val2 : validB (putAt T k (-2)) = true
  gone : findI (putAt T k (-2)) key = -1
  same : ∀ y, y ≠ key → 0 ≤ y → findI (putAt T k (-2)) y = findI T y

theorem drop_says {T : Tab} {key : Int} (h : dropOk T key = true) : ∃ k : Nat, DropSays T key k := by
  have h' := h
  simp only [dropOk, Bool.and_eq_true, decide_eq_true_eq] at h'
  obtain ⟨hf, hs⟩ := h'
  have hfo := hf
  unfold findOf at hf
  split at hf
  · rename_i hvk
    simp only [Bool.and_eq_true] at hvk
    obtain ⟨hv, hk⟩ := hvk
    have hk := inB_iff.1 hk
    obtain ⟨⟨l1, _⟩, _, _, hg⟩ := valid_facts hv
    obtain ⟨e1, e2⟩ := find_yes hf
    have hlt := lastOf_lt (T := T) l1 key
    have hset : dropAt T [key] = putAt T (lastOf T key) (-2) := by
      have := dropL_snoc (ks := []) hg hk.1 hlt (by rw [dropL_nil]; exact e2)
      rw [dropL_nil, List.nil_append] at this
      simp only [dropAt, putAt, this]
    have hs2 : soundB (putAt T (lastOf T key) (-2)) = true := by rw [← hset]; exact drop_sound hs [key]
    have hv2 := (sound_all.1 hs2).1
    refine ⟨lastOf T key, hv, hs, hk, hlt, ⟨by rw [findOf, if_pos (by simp [hv, inB, hk]), e1], e1⟩, e2, ⟨(dropT_yes h).trans hset, dropT_yes h⟩, hs2, hv2, ?_, ?_⟩
    · refine none_find hv2 fun i hi => ?_
      rw [putAt_len] at hi
      show nth (T.zs.set _ _) i ≠ _
      rw [nth_set hlt]
      split
      · omega
      · rename_i hne
        exact fun e => hne (hg.inj hi hlt (e.trans e2.symm) (by rw [e]; exact hk.1))
    · intro y hy hy0
      have hnth : ∀ i, nth (putAt T (lastOf T key) (-2)).zs i = if i = lastOf T key then -2 else nth T.zs i := fun i => nth_set hlt _ i
      by_cases hin : ∃ i, i < T.zs.length ∧ nth T.zs i = y
      · obtain ⟨i, hi, rfl⟩ := hin
        have hne : i ≠ lastOf T key := fun e => hy (by rw [e]; exact e2)
        have a := sound_find hs hi hy0
        have b := sound_find hs2 (i := i) (by rw [putAt_len]; exact hi) (by rw [hnth, if_neg hne]; exact hy0)
        rw [hnth, if_neg hne] at b
        rw [a, b]
      · rw [none_find hv fun i hi e => hin ⟨i, hi, e⟩, none_find hv2 fun i hi => ?_]
        rw [putAt_len] at hi
        rw [hnth]
        split
        · omega
        · exact fun e => hin ⟨i, hi, e⟩
  · omega

end Go.Proofs.Ytojmjhojgfopaaa

namespace Go.Proofs.Ytojmjhojgfopaaa

/-- A row whose first k slots are changed. -/
def mapTo (f : Nat → Int → Int) (zs : List Int) (k : Nat) : List Int := (List.range zs.length).map fun i => if i < k then f i (nth zs i) else nth zs i
theorem mapTo_len (f : Nat → Int → Int) (zs : List Int) (k : Nat) : (mapTo f zs k).length = zs.length := by simp [mapTo]
theorem mapTo_nth {f : Nat → Int → Int} {zs : List Int} {k i : Nat} (hi : i < zs.length) : nth (mapTo f zs k) i = if i < k then f i (nth zs i) else nth zs i := by
  have : (mapTo f zs k)[i]? = some (if i < k then f i (nth zs i) else nth zs i) := by
    unfold mapTo
    rw [List.getElem?_map, List.getElem?_range hi]
    rfl
  rw [nth, this]
  rfl
theorem mapTo_zero (f : Nat → Int → Int) (zs : List Int) : mapTo f zs 0 = zs := nth_ext (mapTo_len ..) fun i hi => by
  rw [mapTo_len] at hi
  rw [mapTo_nth hi, if_neg (by omega)]
theorem mapTo_at {f : Nat → Int → Int} {zs : List Int} {k : Nat} (hk : k < zs.length) : nth (mapTo f zs k) k = nth zs k := by
  rw [mapTo_nth hk, if_neg (by omega)]
theorem mapTo_set {f : Nat → Int → Int} {zs : List Int} {k : Nat} (hk : k < zs.length) : (mapTo f zs k).set k (f k (nth zs k)) = mapTo f zs (k + 1) := nth_ext (by simp [mapTo]) fun i hi => by
  simp only [List.length_set, mapTo_len] at hi
  rw [nth_set (by rw [mapTo_len]; exact hk), mapTo_nth hi, mapTo_nth hi]
  by_cases h : i = k
  · subst h; simp
  · by_cases h2 : i < k
    · simp [h, h2, show i < k + 1 by omega]
    · simp [h, h2, show ¬ i < k + 1 by omega]
theorem mapTo_keep {f : Nat → Int → Int} {zs : List Int} {k : Nat} (hk : k < zs.length) (h : f k (nth zs k) = nth zs k) : mapTo f zs k = mapTo f zs (k + 1) := nth_ext (by simp [mapTo]) fun i hi => by
  rw [mapTo_len] at hi
  rw [mapTo_nth hi, mapTo_nth hi]
  by_cases h1 : i = k
  · subst h1; simp [h]
  · by_cases h2 : i < k
    · simp [h2, show i < k + 1 by omega]
    · simp [h2, show ¬ i < k + 1 by omega]
theorem mapTo_drop (ks zs : List Int) : mapTo (fun _ z => if z ∈ ks then -2 else z) zs zs.length = dropL ks zs := nth_ext (by simp [mapTo, dropL]) fun i hi => by
  rw [mapTo_len] at hi
  rw [mapTo_nth hi, if_pos hi, dropL_nth hi]

end Go.Proofs.Ytojmjhojgfopaaa

namespace Go.Proofs.Ytojmjhojgfopaaa

/-- A nest as data. -/
structure Nst where
  t : Int
  p : Int
  m : Int
  g : Int
  zs : List Int

/-- The table of the first homes, and that of the second ones. -/
abbrev Nst.one (N : Nst) : Tab := ⟨N.t, N.p, N.zs⟩
abbrev Nst.two (N : Nst) : Tab := ⟨N.m, N.g, N.zs⟩

/-- A slot is a home of a key. -/
def liesB (N : Nst) (i : Nat) (x : Int) : Bool := decide (homeI N.one x = i) || decide (homeI N.two x = i)
/-- A slot holds nothing, or a key that has its home there. -/
def fitK (N : Nst) (i : Nat) : Bool := decide (nth N.zs i = -1) || (inB (nth N.zs i) 0 99 && liesB N i (nth N.zs i))
def Lies (N : Nst) (k : Nat) : Prop := ∀ i, i < k → fitK N i = true
instance (N : Nst) (k : Nat) : Decidable (Lies N k) := by unfold Lies; infer_instance
def nestB (N : Nst) : Bool := validB N.one && (validB N.two && decide (Lies N N.zs.length))
theorem nestB_iff {N : Nst} : nestB N = true ↔ validB N.one = true ∧ validB N.two = true ∧ Lies N N.zs.length := by simp [nestB]
theorem nest_no1 {N : Nst} (h : validB N.one = false) : nestB N = false := by simp [nestB, h]
theorem nest_no2 {N : Nst} (h : validB N.two = false) : nestB N = false := by simp [nestB, h]
theorem nest_bad {N : Nst} {k : Nat} (hk : k < N.zs.length) (h : fitK N k = false) : nestB N = false := by
  rw [Bool.eq_false_iff]
  intro hn
  have := (nestB_iff.1 hn).2.2 k hk
  rw [h] at this
  cases this
theorem Lies.zero (N : Nst) : Lies N 0 := fun _ h => by omega
theorem Lies.succ {N : Nst} {k : Nat} (h : Lies N k) (hx : fitK N k = true) : Lies N (k + 1) := fun i hi => by
  by_cases e : i = k
  · subst e; exact hx
  · exact h i (by omega)
theorem fit_at {N : Nst} {k : Nat} {x : Int} (hx : nth N.zs k = x) : fitK N k = (decide (x = -1) || (inB x 0 99 && liesB N k x)) := by rw [fitK, hx]

theorem tomb_bad {N : Nst} (h : 0 ≤ fnd N.zs (-2)) : nestB N = false := by
  rcases fnd_cases N.zs (-2) with ⟨e, _⟩ | ⟨k, hk, _, hx, _⟩
  · omega
  · exact nest_bad hk (by rw [fit_at hx]; simp [inB])
theorem no_tomb {N : Nst} (h : ¬ 0 ≤ fnd N.zs (-2)) {k : Nat} (hk : k < N.zs.length) : nth N.zs k ≠ -2 := by
  rcases fnd_cases N.zs (-2) with ⟨_, e⟩ | ⟨j, hj, e, _, _⟩
  · exact e k hk
  · omega
theorem fit_free {N : Nst} {k : Nat} {x : Int} (hx : nth N.zs k = x) (h : x = -1) : fitK N k = true := by rw [fit_at hx]; simp [h]
theorem fit_first {N : Nst} {k : Nat} {x : Int} (hx : nth N.zs k = x) (h0 : 0 ≤ x) (h9 : x ≤ 99) (h : homeI N.one x = k) : fitK N k = true := by
  rw [fit_at hx]; simp [inB, h0, h9, liesB, h]
theorem fit_second {N : Nst} {k : Nat} {x : Int} (hx : nth N.zs k = x) (h0 : 0 ≤ x) (h9 : x ≤ 99) (h : homeI N.two x = k) : fitK N k = true := by
  rw [fit_at hx]; simp [inB, h0, h9, liesB, h]
theorem fit_none {N : Nst} {k : Nat} {x : Int} (hx : nth N.zs k = x) (h0 : x ≠ -1) (h1 : homeI N.one x ≠ k) (h2 : homeI N.two x ≠ k) : fitK N k = false := by
  rw [fit_at hx]; simp [h0, liesB, h1, h2]
theorem fit_nokey {N : Nst} {k : Nat} {x : Int} (hx : nth N.zs k = x) (h0 : x ≠ -1) (h1 : inB x 0 99 = false) : fitK N k = false := by
  rw [fit_at hx]; simp [h0, h1]
theorem nest_all {N : Nst} (h1 : validB N.one = true) (h2 : validB N.two = true) {k : Nat} (hk : k = N.zs.length) (h : Lies N k) : nestB N = true := by
  subst hk
  exact nestB_iff.2 ⟨h1, h2, h⟩

/-- Who asks: a valid nest and a key. -/
def askN (N : Nst) (key : Int) : Bool := nestB N && inB key 0 99
theorem askN_parts {N : Nst} {key : Int} (h : askN N key = true) : nestB N = true ∧ 0 ≤ key ∧ key ≤ 99 := by
  simp only [askN, Bool.and_eq_true] at h
  exact ⟨h.1, inB_iff.1 h.2⟩
/-- HomesOf of the document. -/
def home1 (N : Nst) (key : Int) : Int := if askN N key then homeI N.one key else -1
def home2 (N : Nst) (key : Int) : Int := if askN N key then homeI N.two key else -1
theorem homes_no {N : Nst} {key : Int} (h : askN N key = false) : home1 N key = -1 ∧ home2 N key = -1 := by simp [home1, home2, h]
theorem homes_yes {N : Nst} {key : Int} (h : askN N key = true) : home1 N key = homeI N.one key ∧ home2 N key = homeI N.two key := by simp [home1, home2, h]

/-- FindNest of the document. -/
def fndN (N : Nst) (key : Int) : Int := if askN N key then fnd N.zs key else -1
def hasN (N : Nst) (key : Int) : Bool := decide (0 ≤ fndN N key)
theorem fndN_no {N : Nst} {key : Int} (h : askN N key = false) : fndN N key = -1 ∧ hasN N key = false := by simp [hasN, fndN, h]
theorem fndN_yes {N : Nst} {key : Int} (h : askN N key = true) : fndN N key = fnd N.zs key := by simp [fndN, h]
/-- Who holds a key is one of its homes. -/
theorem fnd_home {N : Nst} {key : Int} (h : askN N key = true) {k : Nat} (hk : k < N.zs.length) (hx : nth N.zs k = key) : fnd N.zs key = k ∧ (homeI N.one key = k ∨ homeI N.two key = k) := by
  obtain ⟨hn, h0, h9⟩ := askN_parts h
  obtain ⟨v1, v2, hl⟩ := nestB_iff.1 hn
  have hg := (valid_facts v1).2.2.2 k hk
  refine ⟨fnd_at hk (fun j hj => ?_) hx, ?_⟩
  · rw [← hx]
    exact hg.2 (by show 0 ≤ nth N.zs k; omega) j hj
  · have := hl k hk
    rw [fit_at hx] at this
    simp only [Bool.or_eq_true, Bool.and_eq_true, decide_eq_true_eq, liesB] at this
    rcases this with h1 | h1
    · omega
    · exact h1.2
theorem fnd_first_home {N : Nst} {key : Int} (h : askN N key = true) {k : Nat} (hk : k < N.zs.length) (hx : nth N.zs k = key) : fndN N key = k ∧ hasN N key = true := by
  have := (fnd_home h hk hx).1
  have e := fndN_yes h
  refine ⟨by omega, ?_⟩
  simp only [hasN, decide_eq_true_eq]
  omega
theorem fnd_no_home {N : Nst} {key : Int} (h : askN N key = true) {k1 k2 : Nat} (h1 : homeI N.one key = k1) (h2 : homeI N.two key = k2) (x1 : nth N.zs k1 ≠ key) (x2 : nth N.zs k2 ≠ key) : fndN N key = -1 ∧ hasN N key = false := by
  have e := fndN_yes h
  rcases fnd_cases N.zs key with ⟨e1, _⟩ | ⟨k, hk, e1, hx, _⟩
  · refine ⟨by omega, ?_⟩
    simp only [hasN, decide_eq_false_iff_not]
    omega
  · exfalso
    rcases (fnd_home h hk hx).2 with e2 | e2
    · obtain rfl : k1 = k := by omega
      exact x1 hx
    · obtain rfl : k2 = k := by omega
      exact x2 hx

theorem askN_len {N : Nst} {key : Int} (h : askN N key = true) : validB N.one = true ∧ validB N.two = true ∧ 1 ≤ N.zs.length ∧ N.zs.length ≤ 16 := by
  obtain ⟨v1, v2, _⟩ := nestB_iff.1 (askN_parts h).1
  have := (valid_facts v1).1
  exact ⟨v1, v2, this.1, this.2⟩
/-- The homes as slots. -/
theorem home_slot {T : Tab} (h : validB T = true) (key : Int) : ∃ k : Nat, homeI T key = k ∧ k < T.zs.length := by
  obtain ⟨h1, h2⟩ := homeI_bounds h key
  exact ⟨(homeI T key).toNat, by omega, by omega⟩

def zeroN : Nst := ⟨0, 0, 0, 0, []⟩
/-- PullKey of the document. -/
def pullN (N : Nst) (key : Int) : Nst := if hasN N key then ⟨N.t, N.p, N.m, N.g, N.zs.set (fndN N key).toNat (-1)⟩ else zeroN
theorem pull_no {N : Nst} {key : Int} (h : hasN N key = false) : pullN N key = zeroN := by simp [pullN, h]
theorem pull_yes {N : Nst} {key : Int} {k : Nat} (h : fndN N key = k) : pullN N key = ⟨N.t, N.p, N.m, N.g, N.zs.set k (-1)⟩ ∧ hasN N key = true := by
  have : hasN N key = true := by simp [hasN, h]
  refine ⟨?_, this⟩
  rw [pullN, if_pos this, h]
  rfl
theorem has_parts {N : Nst} {key : Int} (h : hasN N key = true) : askN N key = true ∧ ∃ k : Nat, fndN N key = k ∧ k < N.zs.length := by
  cases ha : askN N key
  · rw [(fndN_no ha).2] at h; cases h
  · refine ⟨rfl, ?_⟩
    have e := fndN_yes ha
    simp only [hasN, decide_eq_true_eq] at h
    rcases fnd_cases N.zs key with ⟨e1, _⟩ | ⟨k, hk, e1, _, _⟩
    · omega
    · exact ⟨k, by omega, hk⟩
theorem pull_len (N : Nst) (key : Int) : (pullN N key).zs.length ≤ 16 := by
  cases h : hasN N key
  · rw [pull_no h]; exact Nat.zero_le _
  · obtain ⟨ha, k, hk, _⟩ := has_parts h
    rw [(pull_yes hk).1]
    simp only [List.length_set]
    exact (askN_len ha).2.2.2

/-- NewNest of the document. -/
def newOkN (s t p m g : Int) : Bool := headB s t p && headB s m g
def newNst (s t p m g : Int) : Nst := if newOkN s t p m g then ⟨t, p, m, g, List.replicate s.toNat (-1)⟩ else zeroN
theorem newN_yes {s t p m g : Int} (h : newOkN s t p m g = true) : newNst s t p m g = ⟨t, p, m, g, List.replicate s.toNat (-1)⟩ := by simp [newNst, h]
theorem newN_no {s t p m g : Int} (h : newOkN s t p m g = false) : newNst s t p m g = zeroN := by simp [newNst, h]
theorem newN_len (s t p m g : Int) : (newNst s t p m g).zs.length ≤ 16 := by
  cases h : newOkN s t p m g
  · rw [newN_no h]; exact Nat.zero_le _
  · rw [newN_yes h]
    simp only [newOkN, Bool.and_eq_true] at h
    have := inB_iff.1 (head_size h.1).1
    simp only [List.length_replicate]
    omega

theorem rep_nth {n : Nat} {x : Int} {i : Nat} (h : i < n) : nth (List.replicate n x) i = x := by simp [nth, h]
/-- A row of free slots is valid just as its numbers are. -/
theorem free_valid {n : Nat} {t p : Int} : validB ⟨t, p, List.replicate n (-1)⟩ = headB n t p := by
  cases h : headB n t p
  · simp [validB, h]
  · rw [validB_iff]
    refine ⟨by simpa using h, fun i hi => ?_⟩
    simp only [List.length_replicate] at hi
    rw [rep_nth hi]
    exact ⟨rfl, fun h0 => by omega⟩
theorem free_nest {n : Nat} {t p m g : Int} : nestB ⟨t, p, m, g, List.replicate n (-1)⟩ = (headB n t p && headB n m g) := by
  rw [nestB]
  rw [free_valid, free_valid]
  cases headB n t p
  · rfl
  · cases headB n m g
    · rfl
    · simp only [Bool.true_and, decide_eq_true_eq]
      intro i hi
      simp only [List.length_replicate] at hi
      rw [fitK, rep_nth hi]
      rfl
theorem zero_nest {m g : Int} {t p : Int} : nestB ⟨t, p, m, g, []⟩ = false := by
  have : validB ⟨t, p, []⟩ = false := by simp [validB, headB, inB]
  exact nest_no1 this

end Go.Proofs.Ytojmjhojgfopaaa

namespace Go.Proofs.Ytojmjhojgfopaaa

/-- The slot in front of a slot. -/
def prevS (T : Tab) (i : Nat) : Nat := (i + T.zs.length - 1) % T.zs.length
theorem prevS_lt {T : Tab} (hn : 1 ≤ T.zs.length) (i : Nat) : prevS T i < T.zs.length := Nat.mod_lt _ (by omega)
theorem prev_cast {T : Tab} (hn : 1 ≤ T.zs.length) (i : Nat) : ((i : Int) + (T.zs.length : Int) - 1) % (T.zs.length : Int) = (prevS T i : Int) := by
  have : ((i : Int) + (T.zs.length : Int) - 1) = ((i + T.zs.length - 1 : Nat) : Int) := by omega
  rw [this, prevS, Int.natCast_emod]

/-- A run opens at a slot. -/
def startB (T : Tab) (i : Nat) : Bool := (nth T.zs i != -1) && !(decide (1 < T.zs.length) && (nth T.zs (prevS T i) != -1))
/-- How many slots in a row are not free, from a slot on. -/
def sizeFrom (T : Tab) (i : Nat) : Nat := goN (fun j => nth T.zs (stepS T i j) == -1) T.zs.length
def runsTo (T : Tab) (k : Nat) : List (Nat × Nat) := ((List.range k).filter (startB T)).map fun i => (i, sizeFrom T i)
/-- The runs of a valid table. -/
def runsL (T : Tab) : List (Nat × Nat) := if (runsTo T T.zs.length).length = 0 ∧ nth T.zs 0 ≠ -1 then [(0, T.zs.length)] else runsTo T T.zs.length

theorem runsTo_yes {T : Tab} {k : Nat} (h : startB T k = true) : runsTo T (k + 1) = runsTo T k ++ [(k, sizeFrom T k)] := by
  simp [runsTo, List.range_succ, List.filter_append, h]
theorem runsTo_no {T : Tab} {k : Nat} (h : startB T k = false) : runsTo T (k + 1) = runsTo T k := by
  simp [runsTo, List.range_succ, List.filter_append, h]
theorem runsTo_len (T : Tab) (k : Nat) : (runsTo T k).length ≤ k := by
  simp only [runsTo, List.length_map]
  exact Nat.le_trans (List.length_filter_le _ _) (by simp)

end Go.Proofs.Ytojmjhojgfopaaa

/-
  Tables, finding, putting and runs as plain functions, and what is true of them. No program.
-/
import Derived.RowKit3
namespace Go.Proofs.YtojmjhojgfopaaaDoor

/-- A table as data. -/
structure Tab where
  t : Int
  p : Int
  zs : List Int

/-- lo to hi, both included -/
def inB (n lo hi : Int) : Bool := decide (lo ≤ n) && decide (n ≤ hi)
theorem inB_true {n lo hi : Int} (h : lo ≤ n ∧ n ≤ hi) : inB n lo hi = true := by simp [inB, h]
theorem inB_iff {n lo hi : Int} : inB n lo hi = true ↔ lo ≤ n ∧ n ≤ hi := by simp [inB]
theorem inB_false {n lo hi : Int} : inB n lo hi = false ↔ ¬ (lo ≤ n ∧ n ≤ hi) := by rw [← inB_iff]; simp

/-- The head of a table: its size, Times and Plus. -/
def headB (size times plus : Int) : Bool := inB size 1 16 && (inB times 0 15 && inB plus 0 15)
theorem head_size {n t p : Int} (h : headB n t p = true) : inB n 1 16 = true ∧ inB t 0 15 = true ∧ inB p 0 15 = true := by simpa [headB, and_assoc] using h

/-- What slot i of a list holds (0 behind its end). -/
abbrev nth (zs : List Int) (i : Nat) : Int := zs[i]?.getD 0

/-- The first k slots hold keys, free slots or tombs, and no key twice. -/
def Good (zs : List Int) (k : Nat) : Prop := ∀ i, i < k → inB (nth zs i) (-2) 99 = true ∧ (0 ≤ nth zs i → ∀ j, j < i → nth zs j ≠ nth zs i)
instance (zs : List Int) (k : Nat) : Decidable (Good zs k) := by unfold Good; infer_instance

def validB (T : Tab) : Bool := headB T.zs.length T.t T.p && decide (Good T.zs T.zs.length)
theorem validB_iff {T : Tab} : validB T = true ↔ headB T.zs.length T.t T.p = true ∧ Good T.zs T.zs.length := by simp [validB]

theorem Good.zero (zs : List Int) : Good zs 0 := fun _ h => by omega
theorem Good.succ {zs : List Int} {k : Nat} (h : Good zs k) (h1 : inB (nth zs k) (-2) 99 = true) (h2 : 0 ≤ nth zs k → ∀ j, j < k → nth zs j ≠ nth zs k) : Good zs (k + 1) := by
  intro i hi
  by_cases e : i = k
  · subst e; exact ⟨h1, h2⟩
  · exact h i (by omega)
theorem not_good {zs : List Int} {k n : Nat} (hk : k < n) (h : ¬ (inB (nth zs k) (-2) 99 = true ∧ (0 ≤ nth zs k → ∀ j, j < k → nth zs j ≠ nth zs k))) : ¬ Good zs n := fun hg => h (hg k hk)

/-- The first slot that holds n, or -1. -/
def fnd (zs : List Int) (n : Int) : Int := if zs.findIdx (· == n) < zs.length then zs.findIdx (· == n) else -1
theorem fnd_at {zs : List Int} {n : Int} {k : Nat} (hk : k < zs.length) (h : ∀ j, j < k → nth zs j ≠ n) (he : nth zs k = n) : fnd zs n = k := by
  have e : zs.findIdx (· == n) = k := by
    refine (List.findIdx_eq hk).2 ⟨?_, fun j hj => ?_⟩
    · rw [nth, List.getElem?_eq_getElem hk] at he
      simpa using he
    · have := h j hj
      rw [nth, List.getElem?_eq_getElem (by omega)] at this
      simpa using this
  simp [fnd, e, hk]
theorem fnd_none {zs : List Int} {n : Int} (h : ∀ j, j < zs.length → nth zs j ≠ n) : fnd zs n = -1 := by
  have e : zs.findIdx (· == n) = zs.length := by
    rw [List.findIdx_eq_length]
    intro x hx
    obtain ⟨j, hj, rfl⟩ := List.mem_iff_getElem.1 hx
    have := h j hj
    rw [nth, List.getElem?_eq_getElem hj] at this
    simpa using this
  simp [fnd, e]
theorem fnd_cases (zs : List Int) (n : Int) : (fnd zs n = -1 ∧ ∀ j, j < zs.length → nth zs j ≠ n) ∨ (∃ k : Nat, k < zs.length ∧ fnd zs n = k ∧ nth zs k = n ∧ ∀ j, j < k → nth zs j ≠ n) := by
  by_cases h : zs.findIdx (· == n) < zs.length
  · right
    refine ⟨zs.findIdx (· == n), h, by simp [fnd, h], ?_, fun j hj => ?_⟩
    · have := List.findIdx_getElem (w := h)
      rw [nth, List.getElem?_eq_getElem h]
      simpa using this
    · have := List.not_of_lt_findIdx hj
      rw [nth, List.getElem?_eq_getElem (by omega)]
      simpa using this
  · left
    refine ⟨by simp [fnd, h], fun j hj => ?_⟩
    have h1 : zs.findIdx (· == n) = zs.length := Nat.le_antisymm (List.findIdx_le_length) (by omega)
    have := (List.findIdx_eq_length (p := (· == n))).1 h1 zs[j] (List.getElem_mem hj)
    rw [nth, List.getElem?_eq_getElem hj]
    simpa using this

theorem ne_step {zs : List Int} {n : Int} {k : Nat} (h : ∀ j, j < k → nth zs j ≠ n) (he : nth zs k ≠ n) : ∀ j, j < k + 1 → nth zs j ≠ n := by
  intro j hj
  by_cases e : j = k
  · subst e; exact he
  · exact h j (by omega)

theorem fnd_first {zs : List Int} {x : Int} {k : Nat} (hk : k < zs.length) (he : nth zs k = x) : fnd zs x = k ↔ ∀ j, j < k → nth zs j ≠ x := by
  constructor
  · intro h
    rcases fnd_cases zs x with ⟨h1, h2⟩ | ⟨m, hm, h1, h2, h3⟩
    · exact absurd he (h2 k hk)
    · obtain rfl : m = k := by omega
      exact h3
  · exact fun h => fnd_at hk h he
theorem fnd_step {zs : List Int} {x : Int} {k : Nat} (hk : k < zs.length) (he : nth zs k = x) (h : (fnd zs x != (k : Int)) = false) : 0 ≤ nth zs k → ∀ j, j < k → nth zs j ≠ nth zs k := by
  intro _
  rw [he]
  exact (fnd_first hk he).1 (by simpa using h)
theorem fnd_bad {zs : List Int} {x : Int} {k : Nat} (hk : k < zs.length) (he : nth zs k = x) (h0 : 0 ≤ x) (h : (fnd zs x != (k : Int)) = true) : ¬ (inB x (-2) 99 = true ∧ (0 ≤ x → ∀ j, j < k → nth zs j ≠ x)) := by
  intro hc
  have := (fnd_first hk he).2 (hc.2 h0)
  simp [this] at h

/-- The home of a key. -/
def homeI (T : Tab) (key : Int) : Int := (T.t * key + T.p) % T.zs.length

theorem mul_bounds {t k : Int} (h1 : 0 ≤ t) (h2 : t ≤ 15) (h3 : -2 ≤ k) (h4 : k ≤ 99) : -30 ≤ t * k ∧ t * k ≤ 1485 := by
  constructor
  · have := Int.mul_le_mul_of_nonneg_left h3 h1; omega
  · by_cases hk : 0 ≤ k
    · have := Int.mul_le_mul h2 h4 hk (by omega); omega
    · have := Int.mul_le_mul_of_nonneg_left (show k ≤ 0 by omega) h1; omega
theorem mul_nonneg' {t k : Int} (h1 : 0 ≤ t) (h3 : 0 ≤ k) : 0 ≤ t * k := Int.mul_nonneg h1 h3

/-- What a valid table gives. -/
theorem valid_facts {T : Tab} (h : validB T = true) : (1 ≤ T.zs.length ∧ T.zs.length ≤ 16) ∧ (0 ≤ T.t ∧ T.t ≤ 15) ∧ (0 ≤ T.p ∧ T.p ≤ 15) ∧ Good T.zs T.zs.length := by
  obtain ⟨h1, h2⟩ := validB_iff.1 h
  obtain ⟨a, b, c⟩ := head_size h1
  obtain ⟨a1, a2⟩ := inB_iff.1 a
  exact ⟨⟨by omega, by omega⟩, inB_iff.1 b, inB_iff.1 c, h2⟩
theorem valid_slot {T : Tab} (h : validB T = true) {i : Nat} (hi : i < T.zs.length) : -2 ≤ nth T.zs i ∧ nth T.zs i ≤ 99 := inB_iff.1 ((valid_facts h).2.2.2 i hi).1

theorem homeI_bounds {T : Tab} (h : validB T = true) (key : Int) : 0 ≤ homeI T key ∧ homeI T key < T.zs.length := by
  have h1 := (valid_facts h).1
  exact ⟨Int.emod_nonneg _ (by omega), Int.emod_lt_of_pos _ (by omega)⟩

theorem tmod_bounds (x : Int) {n : Int} (hn : 0 < n) : -n < x.tmod n ∧ x.tmod n < n := by
  have h2 := Int.tmod_lt_of_pos x hn
  refine ⟨?_, h2⟩
  have h3 := Int.tmod_lt_of_pos (-x) hn
  rw [Int.neg_tmod] at h3
  omega
theorem wrap_mod (x n : Int) : (x.tmod n + n) % n = x % n := by
  have h : n * x.tdiv n + x.tmod n = x := Int.mul_tdiv_add_tmod x n
  have e : x % n = (x.tmod n + n * x.tdiv n) % n := by rw [Int.add_comm (x.tmod n), h]
  rw [Int.add_emod_right, e, Int.add_mul_emod_self_left]

/-- HomeOf of the document. -/
def homeOf (T : Tab) (key : Int) : Int := if validB T && inB key 0 99 then homeI T key else -1
theorem homeOf_no {T : Tab} {key : Int} (h : validB T = false ∨ inB key 0 99 = false) : -1 = homeOf T key := by
  unfold homeOf
  rcases h with h | h <;> simp [h]
theorem homeOf_yes {T : Tab} {key : Int} (h : validB T = true) (hk : inB key 0 99 = true) : homeI T key = homeOf T key := by simp [homeOf, h, hk]

end Go.Proofs.YtojmjhojgfopaaaDoor

namespace Go.Proofs.YtojmjhojgfopaaaDoor

/-- AwayOf of the document. -/
def awayOf (T : Tab) (slot : Int) : Int :=
  if validB T && inB slot 0 (T.zs.length - 1) && decide (0 ≤ nth T.zs slot.toNat) then (slot - homeI T (nth T.zs slot.toNat)) % T.zs.length else -1
theorem awayOf_no {T : Tab} {slot : Int} (h : validB T = false ∨ inB slot 0 (T.zs.length - 1) = false ∨ nth T.zs slot.toNat < 0) : -1 = awayOf T slot := by
  unfold awayOf
  rcases h with h | h | h
  · simp [h]
  · simp [h]
  · simp only [show ¬ 0 ≤ nth T.zs slot.toNat by omega, decide_false, Bool.and_false]; rfl
theorem awayOf_yes {T : Tab} {k : Nat} {x : Int} (h : validB T = true) (hk : k < T.zs.length) (hx : nth T.zs k = x) (h0 : 0 ≤ x) : ((k : Int) - homeI T x) % T.zs.length = awayOf T k := by
  have h1 : inB (k : Int) 0 (T.zs.length - 1) = true := inB_true (by omega)
  subst hx
  unfold awayOf
  rw [if_pos (by simp only [h, h1, Int.toNat_natCast, Bool.true_and, decide_eq_true_eq]; exact h0), Int.toNat_natCast]

/-- How many of the first k slots are so. -/
def cnt (p : Int → Bool) (zs : List Int) (k : Nat) : Nat := (zs.take k).countP p
theorem cnt_zero (p : Int → Bool) (zs : List Int) : cnt p zs 0 = 0 := by simp [cnt]
theorem cnt_succ {p : Int → Bool} {zs : List Int} {k : Nat} {x : Int} (hk : k < zs.length) (hx : nth zs k = x) : cnt p zs (k + 1) = cnt p zs k + (if p x then 1 else 0) := by
  have h : zs[k] = x := by simpa [nth, List.getElem?_eq_getElem hk] using hx
  rw [cnt, List.take_succ_eq_append_getElem hk, List.countP_append, h]
  simp [cnt, List.countP_cons]
theorem cnt_le (p : Int → Bool) (zs : List Int) (k : Nat) : cnt p zs k ≤ zs.length := Nat.le_trans List.countP_le_length (by simp; omega)
def keyP (x : Int) : Bool := !(x == -1) && !(x == -2)
def tombP (x : Int) : Bool := x == -2
def freeP (x : Int) : Bool := x == -1
/-- CountSlots of the document. -/
def countK (T : Tab) : Int := if validB T then cnt keyP T.zs T.zs.length else -1
def countT (T : Tab) : Int := if validB T then cnt tombP T.zs T.zs.length else -1
def countF (T : Tab) : Int := if validB T then cnt freeP T.zs T.zs.length else -1

/-- The keys below j that a list has, in order. -/
def sortTo (zs : List Int) (j : Nat) : List Int := ((List.range j).filter (fun k : Nat => decide (0 ≤ fnd zs k))).map (fun k : Nat => (k : Int))
/-- The keys of a list, in order, each once. -/
def sortU (zs : List Int) : List Int := sortTo zs 100
theorem sortTo_zero (zs : List Int) : sortTo zs 0 = [] := rfl
theorem sortTo_yes {zs : List Int} {j : Nat} (h : 0 ≤ fnd zs j) : sortTo zs (j + 1) = sortTo zs j ++ [(j : Int)] := by
  simp [sortTo, List.range_succ, List.filter_append, h]
theorem sortTo_no {zs : List Int} {j : Nat} (h : fnd zs j < 0) : sortTo zs (j + 1) = sortTo zs j := by
  have : ¬ 0 ≤ fnd zs j := by omega
  simp [sortTo, List.range_succ, List.filter_append, this]
theorem sortTo_len (zs : List Int) (j : Nat) : (sortTo zs j).length ≤ j := by
  simp only [sortTo, List.length_map]
  exact Nat.le_trans (List.length_filter_le _ _) (by simp)
theorem mem_sortTo {zs : List Int} {j : Nat} {x : Int} : x ∈ sortTo zs j ↔ ∃ k : Nat, k < j ∧ x = k ∧ 0 ≤ fnd zs k := by
  simp only [sortTo, List.mem_map, List.mem_filter, List.mem_range, decide_eq_true_eq]
  constructor
  · rintro ⟨k, ⟨h1, h2⟩, rfl⟩; exact ⟨k, h1, rfl, h2⟩
  · rintro ⟨k, h1, rfl, h2⟩; exact ⟨k, ⟨h1, h2⟩, rfl⟩

end Go.Proofs.YtojmjhojgfopaaaDoor

namespace Go.Proofs.YtojmjhojgfopaaaDoor

/-- Back along a ring. -/
theorem wsub {a b n : Int} (a0 : 0 ≤ a) (a1 : a < n) (b0 : 0 ≤ b) (b1 : b < n) : (a - b) % n = if b ≤ a then a - b else a - b + n := by
  split
  · exact Int.emod_eq_of_lt (by omega) (by omega)
  · rw [← Int.add_emod_right]
    exact Int.emod_eq_of_lt (by omega) (by omega)
/-- On along a ring. -/
theorem wadd {a b n : Int} (a0 : 0 ≤ a) (a1 : a < n) (b0 : 0 ≤ b) (b1 : b < n) : (a + b) % n = if a + b < n then a + b else a + b - n := by
  split
  · exact Int.emod_eq_of_lt (by omega) (by omega)
  · rw [← Int.sub_emod_right]
    exact Int.emod_eq_of_lt (by omega) (by omega)
theorem nadd {a b n : Nat} (a1 : a < n) (b1 : b ≤ n) : (a + b) % n = if a + b < n then a + b else a + b - n := by
  split
  · exact Nat.mod_eq_of_lt (by omega)
  · rw [Nat.mod_eq_sub_mod (by omega)]
    exact Nat.mod_eq_of_lt (by omega)

theorem Good.inj {zs : List Int} {n i j : Nat} (h : Good zs n) (hi : i < n) (hj : j < n) (e : nth zs i = nth zs j) (h0 : 0 ≤ nth zs i) : i = j := by
  rcases Nat.lt_trichotomy i j with h1 | h1 | h1
  · exact absurd e ((h j hj).2 (by omega) i h1)
  · exact h1
  · exact absurd e.symm ((h i hi).2 h0 j h1)

def turnL (zs : List Int) : List Int := (List.range zs.length).map fun i => nth zs ((i + zs.length - 1) % zs.length)
/-- A table turned by a slot, whose Plus is one greater. -/
def turn (T : Tab) : Tab := ⟨T.t, T.p + 1, turnL T.zs⟩
theorem turnL_len (zs : List Int) : (turnL zs).length = zs.length := by simp [turnL]
theorem turn_len (T : Tab) : (turn T).zs.length = T.zs.length := turnL_len _
theorem turnL_nth {zs : List Int} {i : Nat} (hi : i < zs.length) : nth (turnL zs) i = nth zs ((i + zs.length - 1) % zs.length) := by
  simp [nth, turnL, hi]
theorem turn_back {i n : Nat} (hi : i < n) : ((i + 1) % n + n - 1) % n = i := by
  have h1 := nadd (b := 1) hi (by omega)
  rw [h1]
  split
  · rw [show i + 1 + n - 1 = i + n by omega, Nat.add_mod_right, Nat.mod_eq_of_lt hi]
  · rw [show i + 1 - n + n - 1 = i by omega, Nat.mod_eq_of_lt hi]
theorem turn_on {i n : Nat} (hi : i < n) : ((i + n - 1) % n + 1) % n = i := by
  by_cases h : i = 0
  · subst h
    rw [show 0 + n - 1 = n - 1 by omega, Nat.mod_eq_of_lt (show n - 1 < n by omega), show n - 1 + 1 = n by omega, Nat.mod_self]
  · rw [show i + n - 1 = (i - 1) + n by omega, Nat.add_mod_right, Nat.mod_eq_of_lt (show i - 1 < n by omega), show i - 1 + 1 = i by omega, Nat.mod_eq_of_lt hi]
theorem turnL_succ {zs : List Int} {i : Nat} (hi : i < zs.length) : nth (turnL zs) ((i + 1) % zs.length) = nth zs i := by
  rw [turnL_nth (Nat.mod_lt _ (by omega)), turn_back hi]

theorem turn_valid {T : Tab} (h : validB T = true) (hp : T.p < 15) : validB (turn T) = true := by
  obtain ⟨⟨l1, l2⟩, ⟨t1, t2⟩, ⟨p1, p2⟩, hg⟩ := valid_facts h
  rw [validB_iff]
  refine ⟨?_, fun i hi => ?_⟩
  · show headB _ T.t (T.p + 1) = true
    rw [turn_len]
    simp only [headB, inB, Bool.and_eq_true, decide_eq_true_eq]
    omega
  · rw [turn_len] at hi
    have e : nth (turn T).zs i = _ := turnL_nth hi
    have m1 : (i + T.zs.length - 1) % T.zs.length < T.zs.length := Nat.mod_lt _ (by omega)
    rw [e]
    refine ⟨(hg _ m1).1, fun h0 j hj e2 => ?_⟩
    have e3 : nth (turn T).zs j = _ := turnL_nth (show j < T.zs.length by omega)
    rw [e3] at e2
    have := hg.inj (Nat.mod_lt _ (by omega)) m1 e2 (by rw [e2]; exact h0)
    have h1 := turn_on hi
    have h2 := turn_on (show j < T.zs.length by omega)
    rw [this] at h2
    omega

theorem turn_home (T : Tab) (key : Int) : homeI (turn T) key = (homeI T key + 1) % T.zs.length := by
  unfold homeI
  rw [turn_len, Int.emod_add_emod]
  show (T.t * key + (T.p + 1)) % _ = _
  rw [← Int.add_assoc]

theorem turn_homeOf {T : Tab} {key : Int} (h : validB T = true) (hp : T.p < 15) (hk : inB key 0 99 = true) : homeOf (turn T) key = (homeOf T key + 1) % T.zs.length := by
  rw [← homeOf_yes h hk, ← homeOf_yes (turn_valid h hp) hk, turn_home]

theorem ring_turn (a b n : Int) : ((a + 1) % n - (b + 1) % n) % n = (a - b) % n := by
  rw [← Int.sub_emod, show a + 1 - (b + 1) = a - b by omega]

theorem turn_away {T : Tab} (h : validB T = true) (hp : T.p < 15) {i : Nat} (hi : i < T.zs.length) : awayOf (turn T) (((i + 1) % T.zs.length : Nat) : Int) = awayOf T i := by
  have hn := turn_len T
  have m : (i + 1) % T.zs.length < T.zs.length := Nat.mod_lt _ (by omega)
  have e : nth (turn T).zs ((i + 1) % T.zs.length) = nth T.zs i := turnL_succ hi
  by_cases h0 : 0 ≤ nth T.zs i
  · rw [← awayOf_yes h hi rfl h0, ← awayOf_yes (turn_valid h hp) (by omega) e h0, turn_home, hn]
    have := ring_turn i (homeI T (nth T.zs i)) T.zs.length
    rw [← this]
    congr 2
  · rw [← awayOf_no (T := T) (slot := (i : Int)) (.inr (.inr (by rw [Int.toNat_natCast]; omega))), ← awayOf_no (T := turn T) (slot := (((i + 1) % T.zs.length : Nat) : Int)) (.inr (.inr (by rw [Int.toNat_natCast, e]; omega)))]

/-- What is known of a key's home. -/
theorem homeOf_cases (T : Tab) (key : Int) : (homeOf T key = -1 ∧ (validB T = false ∨ inB key 0 99 = false)) ∨ (homeOf T key = homeI T key ∧ validB T = true ∧ (0 ≤ key ∧ key ≤ 99) ∧ 0 ≤ homeI T key ∧ homeI T key < T.zs.length) := by
  cases hv : validB T
  · exact .inl ⟨(homeOf_no (.inl hv)).symm, .inl rfl⟩
  · cases hk : inB key 0 99
    · exact .inl ⟨(homeOf_no (.inr hk)).symm, .inr rfl⟩
    · exact .inr ⟨(homeOf_yes hv hk).symm, rfl, inB_iff.1 hk, homeI_bounds hv key⟩

theorem home_rest (T : Tab) (key : Int) : (T.t * key + T.p - homeI T key) % T.zs.length = 0 := by
  unfold homeI
  rw [← Int.emod_eq_emod_iff_emod_sub_eq_zero]
  simp

theorem home_apart (T : Tab) (key : Int) : (T.zs.length : Int) ∣ (homeI T (key + 1) - homeI T key - T.t) := by
  unfold homeI
  apply Int.dvd_of_emod_eq_zero
  rw [Int.sub_emod, ← Int.sub_emod (T.t * (key + 1) + T.p) (T.t * key + T.p), ← Int.sub_emod]
  have : T.t * (key + 1) + T.p - (T.t * key + T.p) - T.t = 0 := by rw [Int.mul_add]; omega
  rw [this]; simp
theorem home_apart_t (T : Tab) (key : Int) : (homeI T (key + 1) - homeI T key - T.t).tmod T.zs.length = 0 := Int.tmod_eq_zero_of_dvd (home_apart T key)
theorem home_far (T : Tab) (key : Int) : homeI T (key + T.zs.length) = homeI T key := by
  unfold homeI
  rw [Int.mul_add, show T.t * key + T.t * T.zs.length + T.p = T.t * key + T.p + T.t * T.zs.length by omega, Int.add_mul_emod_self_right]

theorem away_back {a b n : Int} (a0 : 0 ≤ a) (a1 : a < n) : (b + (a - b) % n) % n = a := by
  rw [Int.add_emod_emod, show b + (a - b) = a by omega, Int.emod_eq_of_lt a0 a1]

/-- What is known of how far a slot lies from home. -/
theorem awayOf_cases (T : Tab) (slot : Int) : awayOf T slot = -1 ∨ ∃ (k : Nat) (x : Int), slot = k ∧ k < T.zs.length ∧ nth T.zs k = x ∧ 0 ≤ x ∧ x ≤ 99 ∧ validB T = true ∧ awayOf T slot = (k - homeI T x) % T.zs.length ∧ 0 ≤ awayOf T slot ∧ awayOf T slot < T.zs.length := by
  cases hv : validB T
  · exact .inl (awayOf_no (.inl hv)).symm
  · cases hs : inB slot 0 (T.zs.length - 1)
    · exact .inl (awayOf_no (.inr (.inl hs))).symm
    · obtain ⟨s0, s1⟩ := inB_iff.1 hs
      obtain ⟨k, rfl⟩ : ∃ k : Nat, slot = k := ⟨slot.toNat, by omega⟩
      by_cases h0 : 0 ≤ nth T.zs k
      · have hk : k < T.zs.length := by omega
        have hb := valid_slot hv hk
        have e := awayOf_yes hv hk rfl h0
        refine .inr ⟨k, _, rfl, hk, rfl, h0, hb.2, rfl, e.symm, ?_, ?_⟩
        · rw [← e]; exact Int.emod_nonneg _ (by omega)
        · rw [← e]; exact Int.emod_lt_of_pos _ (by omega)
      · exact .inl (awayOf_no (.inr (.inr (by simpa using h0)))).symm

end Go.Proofs.YtojmjhojgfopaaaDoor

namespace Go.Proofs.YtojmjhojgfopaaaDoor

theorem good_nodup {zs : List Int} (h : Good zs zs.length) : (zs.filter fun x => inB x 0 99).Nodup := by
  rw [List.nodup_iff_pairwise_ne, List.pairwise_filter]
  rw [List.pairwise_iff_getElem]
  intro i j hi hj hij h1 h2 e
  have hi' : nth zs i = zs[i] := by simp [nth, List.getElem?_eq_getElem hi]
  have hj' : nth zs j = zs[j] := by simp [nth, List.getElem?_eq_getElem hj]
  have h3 := (inB_iff.1 h1).1
  have := h.inj hi hj (by rw [hi', hj', e]) (by rw [hi']; exact h3)
  omega

theorem sortU_pairwise (zs : List Int) : (sortU zs).Pairwise (· < ·) := by
  unfold sortU sortTo
  rw [List.pairwise_map]
  refine List.Pairwise.filter _ ?_
  refine List.pairwise_lt_range.imp ?_
  intro a b h
  omega

theorem sortU_mem {zs : List Int} {x : Int} : x ∈ sortU zs ↔ (0 ≤ x ∧ x ≤ 99) ∧ x ∈ zs := by
  unfold sortU
  rw [mem_sortTo]
  constructor
  · rintro ⟨k, hk, rfl, h⟩
    rcases fnd_cases zs (k : Int) with ⟨h1, _⟩ | ⟨j, hj, _, h2, _⟩
    · omega
    · refine ⟨by omega, ?_⟩
      rw [← h2, nth, List.getElem?_eq_getElem hj]
      exact List.getElem_mem hj
  · rintro ⟨⟨h0, h1⟩, h⟩
    obtain ⟨k, rfl⟩ : ∃ k : Nat, x = k := ⟨x.toNat, by omega⟩
    refine ⟨k, by omega, rfl, ?_⟩
    rcases fnd_cases zs (k : Int) with ⟨_, h2⟩ | ⟨j, hj, e, _⟩
    · obtain ⟨i, hi, e⟩ := List.getElem_of_mem h
      exact absurd (by rw [nth, List.getElem?_eq_getElem hi]; simpa using e) (h2 i hi)
    · omega

theorem sort_keys {zs : List Int} (h : Good zs zs.length) : ((zs.filter fun x => inB x 0 99).mergeSort fun x y => decide (x ≤ y)) = sortU zs := by
  have hp := List.mergeSort_perm (zs.filter fun x => inB x 0 99) (fun x y => decide (x ≤ y))
  have hs := List.pairwise_mergeSort (le := fun x y : Int => decide (x ≤ y)) (fun a b c h1 h2 => by simp at *; omega) (fun a b => by simp; omega) (zs.filter fun x => inB x 0 99)
  have hu := sortU_pairwise zs
  have hperm : (zs.filter fun x => inB x 0 99).Perm (sortU zs) := by
    rw [List.perm_ext_iff_of_nodup (good_nodup h) (hu.imp fun h => by omega)]
    intro x
    rw [List.mem_filter, sortU_mem, inB_iff]
    exact And.comm
  refine List.Perm.eq_of_pairwise (le := fun x y : Int => decide (x ≤ y) = true) (fun a b _ _ h1 h2 => ?_) hs (hu.imp fun h => ?_) (hp.trans hperm)
  · simp at h1 h2; omega
  · simp; omega

end Go.Proofs.YtojmjhojgfopaaaDoor

namespace Go.Proofs.YtojmjhojgfopaaaDoor

/-- The slot to which one comes by i steps from h on. -/
def stepS (T : Tab) (h i : Nat) : Nat := (h + i) % T.zs.length
theorem stepS_lt {T : Tab} (hn : 1 ≤ T.zs.length) (h i : Nat) : stepS T h i < T.zs.length := Nat.mod_lt _ (by omega)

/-- A slot at which one stops who looks for a key. -/
def stopAt (T : Tab) (key : Int) (h i : Nat) : Bool := nth T.zs (stepS T h i) == -1 || nth T.zs (stepS T h i) == key

/-- How many of the first n steps are taken without a stop. -/
def goN (p : Nat → Bool) (n : Nat) : Nat := (List.range n).findIdx p
theorem goN_le (p : Nat → Bool) (n : Nat) : goN p n ≤ n := by
  have := List.findIdx_le_length (p := p) (xs := List.range n)
  simpa [goN] using this
theorem goN_free {p : Nat → Bool} {n j : Nat} (hj : j < goN p n) : p j = false := by
  have h1 := goN_le p n
  have h2 := List.not_of_lt_findIdx (p := p) (xs := List.range n) (i := j) hj
  simpa using h2
theorem goN_stop {p : Nat → Bool} {n : Nat} (h : goN p n < n) : p (goN p n) = true := by
  have h2 := List.findIdx_getElem (p := p) (xs := List.range n) (w := by simpa [goN] using h)
  simpa [goN] using h2
theorem goN_eq {p : Nat → Bool} {n i : Nat} (hi : i < n) (h : ∀ j, j < i → p j = false) (hp : p i = true) : goN p n = i := by
  have h1 := goN_le p n
  rcases Nat.lt_trichotomy (goN p n) i with h2 | h2 | h2
  · have := goN_stop (p := p) (n := n) (by omega)
    rw [h _ h2] at this
    cases this
  · exact h2
  · have := goN_free (p := p) (n := n) h2
    rw [hp] at this
    cases this
theorem goN_all {p : Nat → Bool} {n : Nat} (h : ∀ j, j < n → p j = false) : goN p n = n := by
  have h1 := goN_le p n
  by_cases h2 : goN p n < n
  · have := goN_stop h2
    rw [h _ h2] at this
    cases this
  · omega

/-- How many slots are visited to find a key: the last one included. -/
def visN (T : Tab) (key : Int) (h : Nat) : Nat := min (goN (stopAt T key h) T.zs.length + 1) T.zs.length
theorem visN_stop {T : Tab} {key : Int} {h i : Nat} (hi : i < T.zs.length) (hf : ∀ j, j < i → stopAt T key h j = false) (hp : stopAt T key h i = true) : visN T key h = i + 1 := by
  unfold visN
  rw [goN_eq hi hf hp]
  omega
theorem visN_all {T : Tab} {key : Int} {h : Nat} (hf : ∀ j, j < T.zs.length → stopAt T key h j = false) : visN T key h = T.zs.length := by
  unfold visN
  rw [goN_all hf]
  omega
theorem visN_bounds {T : Tab} (hn : 1 ≤ T.zs.length) (key : Int) (h : Nat) : 1 ≤ visN T key h ∧ visN T key h ≤ T.zs.length := by
  unfold visN
  omega

/-- The slots of the first k steps. -/
def wayTo (T : Tab) (h k : Nat) : List Int := (List.range k).map fun i => (stepS T h i : Int)
theorem wayTo_succ (T : Tab) (h k : Nat) : wayTo T h (k + 1) = wayTo T h k ++ [(stepS T h k : Int)] := by
  simp [wayTo, List.range_succ]
theorem wayTo_len (T : Tab) (h k : Nat) : (wayTo T h k).length = k := by simp [wayTo]
theorem wayTo_nth {T : Tab} {h k i : Nat} (hi : i < k) : nth (wayTo T h k) i = stepS T h i := by
  simp [nth, wayTo, hi]

def homeN (T : Tab) (key : Int) : Nat := (homeI T key).toNat
theorem homeN_eq {T : Tab} (h : validB T = true) (key : Int) : (homeN T key : Int) = homeI T key := by
  have := homeI_bounds h key
  unfold homeN
  omega
theorem homeN_lt {T : Tab} (h : validB T = true) (key : Int) : homeN T key < T.zs.length := by
  have := homeI_bounds h key
  unfold homeN
  omega

/-- The slots that are visited for a key. -/
def wayOf (T : Tab) (key : Int) : List Int := wayTo T (homeN T key) (visN T key (homeN T key))
/-- The last slot that is visited for a key. -/
def lastOf (T : Tab) (key : Int) : Nat := stepS T (homeN T key) (visN T key (homeN T key) - 1)
/-- The slot where a key is found, or -1. -/
def findI (T : Tab) (key : Int) : Int := if nth T.zs (lastOf T key) = key then lastOf T key else -1

/-- FindKey, VisitsFor, LostKeys, IsSound, PlaceFor of the document. -/
def findOf (T : Tab) (key : Int) : Int := if validB T && inB key 0 99 then findI T key else -1
def visOf (T : Tab) (key : Int) : Int := if validB T && inB key 0 99 then visN T key (homeN T key) else -1
def lostOf (T : Tab) : List Int := if validB T then (sortU T.zs).filter (fun k => decide (findI T k < 0)) else []
def soundB (T : Tab) : Bool := validB T && decide (lostOf T = [])
/-- The first slot of a way that is free or a tomb, or -1. -/
def firstLow (zs : List Int) (way : List Int) : Int := ((way.find? fun k => decide (nth zs k.toNat < 0)).getD (-1))
def placeI (T : Tab) (key : Int) : Int := if validB T && inB key 0 99 && decide (findI T key < 0) then firstLow T.zs (wayOf T key) else -1

theorem lastOf_lt {T : Tab} (hn : 1 ≤ T.zs.length) (key : Int) : lastOf T key < T.zs.length := stepS_lt hn _ _
theorem findI_bounds {T : Tab} (hn : 1 ≤ T.zs.length) (key : Int) : -1 ≤ findI T key ∧ findI T key < T.zs.length := by
  have := lastOf_lt hn key
  unfold findI
  split <;> omega

end Go.Proofs.YtojmjhojgfopaaaDoor

namespace Go.Proofs.YtojmjhojgfopaaaDoor

/-- The first slot of some steps that is free or a tomb, or -1. -/
def lookPl (T : Tab) (h : Nat) (pre : List Nat) : Int := ((pre.find? fun i => decide (nth T.zs (stepS T h i) < 0)).map fun i => (stepS T h i : Int)).getD (-1)
theorem lookPl_nil (T : Tab) (h : Nat) : lookPl T h [] = -1 := rfl
theorem lookPl_keep {T : Tab} {h : Nat} {pre : List Nat} {i : Nat} (hc : 0 ≤ lookPl T h pre ∨ 0 ≤ nth T.zs (stepS T h i)) : lookPl T h (pre ++ [i]) = lookPl T h pre := by
  unfold lookPl at *
  rw [List.find?_append]
  cases hf : pre.find? fun i => decide (nth T.zs (stepS T h i) < 0) with
  | some j => simp
  | none =>
    rcases hc with hc | hc
    · rw [hf] at hc; simp at hc
    · have : ¬ nth T.zs (stepS T h i) < 0 := by omega
      simp [this]
theorem lookPl_new {T : Tab} {h : Nat} {pre : List Nat} {i : Nat} (h1 : lookPl T h pre < 0) (h2 : nth T.zs (stepS T h i) < 0) : lookPl T h (pre ++ [i]) = stepS T h i := by
  unfold lookPl at *
  rw [List.find?_append]
  cases hf : pre.find? fun i => decide (nth T.zs (stepS T h i) < 0) with
  | some j => rw [hf] at h1; simp at h1; omega
  | none => simp [h2]
theorem lookPl_bounds {T : Tab} (hn : 1 ≤ T.zs.length) (h : Nat) (pre : List Nat) : -1 ≤ lookPl T h pre ∧ lookPl T h pre < T.zs.length := by
  unfold lookPl
  cases pre.find? fun i => decide (nth T.zs (stepS T h i) < 0) with
  | some j => have := stepS_lt hn h j; simp; omega
  | none => simp; omega
theorem firstLow_way (T : Tab) (h k : Nat) : firstLow T.zs (wayTo T h k) = lookPl T h (List.range k) := by
  unfold firstLow wayTo lookPl
  rw [List.find?_map]
  congr 2

/-- No step of these stops. -/
def Free' (T : Tab) (key : Int) (h : Nat) (pre : List Nat) : Prop := ∀ i, i ∈ pre → stopAt T key h i = false
theorem Free'.nil (T : Tab) (key : Int) (h : Nat) : Free' T key h [] := fun _ h => (by cases h)
theorem Free'.snoc {T : Tab} {key : Int} {h : Nat} {pre : List Nat} {i : Nat} (hp : Free' T key h pre) (hi : stopAt T key h i = false) : Free' T key h (pre ++ [i]) := by
  intro j hj
  rcases List.mem_append.1 hj with h1 | h1
  · exact hp j h1
  · obtain rfl := List.mem_singleton.1 h1; exact hi

theorem range_snoc {k : Nat} {pre : List Nat} {x : Nat} (h : List.range k = pre ++ [x]) : k = x + 1 ∧ pre = List.range x := by
  cases k with
  | zero => simp at h
  | succ k =>
    rw [List.range_succ] at h
    obtain ⟨h1, h2⟩ := List.append_inj' h rfl
    simp at h2
    subst h2
    exact ⟨rfl, h1.symm⟩

/-- What the search has found where it stops at the last of some steps. -/
theorem look_stop {T : Tab} {key : Int} {h k x : Nat} {pre : List Nat} (hh : homeN T key = h) (hk : k ≤ T.zs.length) (he : List.range k = pre ++ [x]) (hf : Free' T key h pre) (hs : stopAt T key h x = true) :
    visN T key (homeN T key) = (pre ++ [x]).length ∧ lastOf T key = stepS T h x ∧ wayOf T key = wayTo T h k ∧ List.range k = pre ++ [x] := by
  obtain ⟨rfl, rfl⟩ := range_snoc he
  have hv : visN T key h = x + 1 := visN_stop (by omega) (fun j hj => hf j (List.mem_range.2 hj)) hs
  subst hh
  refine ⟨by rw [hv]; simp, by rw [lastOf, hv]; rfl, by rw [wayOf, hv], he⟩
theorem look_found {T : Tab} {key : Int} {h k x : Nat} {pre : List Nat} (hh : homeN T key = h) (hk : k ≤ T.zs.length) (he : List.range k = pre ++ [x]) (hf : Free' T key h pre) (hs : nth T.zs (stepS T h x) = key) :
    visN T key (homeN T key) = (pre ++ [x]).length ∧ findI T key = stepS T h x := by
  obtain ⟨h1, h2, _, _⟩ := look_stop hh hk he hf (by simp [stopAt, hs])
  exact ⟨h1, by rw [findI, h2, if_pos hs]⟩
theorem look_free {T : Tab} {key : Int} {h k x : Nat} {pre : List Nat} (h0 : 0 ≤ key) (hh : homeN T key = h) (hk : k ≤ T.zs.length) (he : List.range k = pre ++ [x]) (hf : Free' T key h pre) (hs : nth T.zs (stepS T h x) = -1) :
    visN T key (homeN T key) = (pre ++ [x]).length ∧ findI T key = -1 ∧ firstLow T.zs (wayOf T key) = lookPl T h (pre ++ [x]) := by
  obtain ⟨h1, h2, h3, h4⟩ := look_stop hh hk he hf (by simp [stopAt, hs])
  refine ⟨h1, by rw [findI, h2, hs, if_neg (by omega)], ?_⟩
  rw [h3, firstLow_way, h4]
theorem look_none {T : Tab} {key : Int} {h : Nat} {pre : List Nat} (hn : 1 ≤ T.zs.length) (hh : homeN T key = h) (he : pre = List.range T.zs.length) (hf : Free' T key h pre) :
    visN T key (homeN T key) = pre.length ∧ findI T key = -1 ∧ firstLow T.zs (wayOf T key) = lookPl T h pre := by
  subst he
  have hv : visN T key h = T.zs.length := visN_all fun j hj => hf j (List.mem_range.2 hj)
  subst hh
  refine ⟨by rw [hv]; simp, ?_, by rw [wayOf, hv, firstLow_way]⟩
  have h2 : lastOf T key = stepS T (homeN T key) (T.zs.length - 1) := by rw [lastOf, hv]
  have := hf (T.zs.length - 1) (List.mem_range.2 (by omega))
  simp only [stopAt, Bool.or_eq_false_iff, beq_eq_false_iff_ne, ne_eq] at this
  rw [findI, h2, if_neg this.2]

end Go.Proofs.YtojmjhojgfopaaaDoor

namespace Go.Proofs.YtojmjhojgfopaaaDoor

/-- A nest as data. -/
structure Nst where
  t : Int
  p : Int
  m : Int
  g : Int
  zs : List Int

/-- The table of the first homes, and that of the second ones. -/
abbrev Nst.one (N : Nst) : Tab := ⟨N.t, N.p, N.zs⟩
abbrev Nst.two (N : Nst) : Tab := ⟨N.m, N.g, N.zs⟩

/-- A slot is a home of a key. -/
def liesB (N : Nst) (i : Nat) (x : Int) : Bool := decide (homeI N.one x = i) || decide (homeI N.two x = i)
/-- A slot holds nothing, or a key that has its home there. -/
def fitK (N : Nst) (i : Nat) : Bool := decide (nth N.zs i = -1) || (inB (nth N.zs i) 0 99 && liesB N i (nth N.zs i))
def Lies (N : Nst) (k : Nat) : Prop := ∀ i, i < k → fitK N i = true
instance (N : Nst) (k : Nat) : Decidable (Lies N k) := by unfold Lies; infer_instance
def nestB (N : Nst) : Bool := validB N.one && (validB N.two && decide (Lies N N.zs.length))
theorem nestB_iff {N : Nst} : nestB N = true ↔ validB N.one = true ∧ validB N.two = true ∧ Lies N N.zs.length := by simp [nestB]
theorem nest_no1 {N : Nst} (h : validB N.one = false) : nestB N = false := by simp [nestB, h]
theorem nest_no2 {N : Nst} (h : validB N.two = false) : nestB N = false := by simp [nestB, h]
theorem nest_bad {N : Nst} {k : Nat} (hk : k < N.zs.length) (h : fitK N k = false) : nestB N = false := by
  rw [Bool.eq_false_iff]
  intro hn
  have := (nestB_iff.1 hn).2.2 k hk
  rw [h] at this
  cases this
theorem Lies.zero (N : Nst) : Lies N 0 := fun _ h => by omega
theorem Lies.succ {N : Nst} {k : Nat} (h : Lies N k) (hx : fitK N k = true) : Lies N (k + 1) := fun i hi => by
  by_cases e : i = k
  · subst e; exact hx
  · exact h i (by omega)
theorem fit_at {N : Nst} {k : Nat} {x : Int} (hx : nth N.zs k = x) : fitK N k = (decide (x = -1) || (inB x 0 99 && liesB N k x)) := by rw [fitK, hx]

theorem tomb_bad {N : Nst} (h : 0 ≤ fnd N.zs (-2)) : nestB N = false := by
  rcases fnd_cases N.zs (-2) with ⟨e, _⟩ | ⟨k, hk, _, hx, _⟩
  · omega
  · exact nest_bad hk (by rw [fit_at hx]; simp [inB])
theorem no_tomb {N : Nst} (h : ¬ 0 ≤ fnd N.zs (-2)) {k : Nat} (hk : k < N.zs.length) : nth N.zs k ≠ -2 := by
  rcases fnd_cases N.zs (-2) with ⟨_, e⟩ | ⟨j, hj, e, _, _⟩
  · exact e k hk
  · omega
theorem fit_free {N : Nst} {k : Nat} {x : Int} (hx : nth N.zs k = x) (h : x = -1) : fitK N k = true := by rw [fit_at hx]; simp [h]
theorem fit_first {N : Nst} {k : Nat} {x : Int} (hx : nth N.zs k = x) (h0 : 0 ≤ x) (h9 : x ≤ 99) (h : homeI N.one x = k) : fitK N k = true := by
  rw [fit_at hx]; simp [inB, h0, h9, liesB, h]
theorem fit_second {N : Nst} {k : Nat} {x : Int} (hx : nth N.zs k = x) (h0 : 0 ≤ x) (h9 : x ≤ 99) (h : homeI N.two x = k) : fitK N k = true := by
  rw [fit_at hx]; simp [inB, h0, h9, liesB, h]
theorem fit_none {N : Nst} {k : Nat} {x : Int} (hx : nth N.zs k = x) (h0 : x ≠ -1) (h1 : homeI N.one x ≠ k) (h2 : homeI N.two x ≠ k) : fitK N k = false := by
  rw [fit_at hx]; simp [h0, liesB, h1, h2]
theorem fit_nokey {N : Nst} {k : Nat} {x : Int} (hx : nth N.zs k = x) (h0 : x ≠ -1) (h1 : inB x 0 99 = false) : fitK N k = false := by
  rw [fit_at hx]; simp [h0, h1]
theorem nest_all {N : Nst} (h1 : validB N.one = true) (h2 : validB N.two = true) {k : Nat} (hk : k = N.zs.length) (h : Lies N k) : nestB N = true := by
  subst hk
  exact nestB_iff.2 ⟨h1, h2, h⟩

/-- Who asks: a valid nest and a key. -/
def askN (N : Nst) (key : Int) : Bool := nestB N && inB key 0 99
theorem askN_parts {N : Nst} {key : Int} (h : askN N key = true) : nestB N = true ∧ 0 ≤ key ∧ key ≤ 99 := by
  simp only [askN, Bool.and_eq_true] at h
  exact ⟨h.1, inB_iff.1 h.2⟩
/-- HomesOf of the document. -/
def home1 (N : Nst) (key : Int) : Int := if askN N key then homeI N.one key else -1
def home2 (N : Nst) (key : Int) : Int := if askN N key then homeI N.two key else -1
theorem homes_no {N : Nst} {key : Int} (h : askN N key = false) : home1 N key = -1 ∧ home2 N key = -1 := by simp [home1, home2, h]
theorem homes_yes {N : Nst} {key : Int} (h : askN N key = true) : home1 N key = homeI N.one key ∧ home2 N key = homeI N.two key := by simp [home1, home2, h]

/-- FindNest of the document. -/
def fndN (N : Nst) (key : Int) : Int := if askN N key then fnd N.zs key else -1
def hasN (N : Nst) (key : Int) : Bool := decide (0 ≤ fndN N key)
theorem fndN_no {N : Nst} {key : Int} (h : askN N key = false) : fndN N key = -1 ∧ hasN N key = false := by simp [hasN, fndN, h]
theorem fndN_yes {N : Nst} {key : Int} (h : askN N key = true) : fndN N key = fnd N.zs key := by simp [fndN, h]
/-- Who holds a key is one of its homes. -/
theorem fnd_home {N : Nst} {key : Int} (h : askN N key = true) {k : Nat} (hk : k < N.zs.length) (hx : nth N.zs k = key) : fnd N.zs key = k ∧ (homeI N.one key = k ∨ homeI N.two key = k) := by
  obtain ⟨hn, h0, h9⟩ := askN_parts h
  obtain ⟨v1, v2, hl⟩ := nestB_iff.1 hn
  have hg := (valid_facts v1).2.2.2 k hk
  refine ⟨fnd_at hk (fun j hj => ?_) hx, ?_⟩
  · rw [← hx]
    exact hg.2 (by show 0 ≤ nth N.zs k; omega) j hj
  · have := hl k hk
    rw [fit_at hx] at this
    simp only [Bool.or_eq_true, Bool.and_eq_true, decide_eq_true_eq, liesB] at this
    rcases this with h1 | h1
    · omega
    · exact h1.2
theorem fnd_first_home {N : Nst} {key : Int} (h : askN N key = true) {k : Nat} (hk : k < N.zs.length) (hx : nth N.zs k = key) : fndN N key = k ∧ hasN N key = true := by
  have := (fnd_home h hk hx).1
  have e := fndN_yes h
  refine ⟨by omega, ?_⟩
  simp only [hasN, decide_eq_true_eq]
  omega
theorem fnd_no_home {N : Nst} {key : Int} (h : askN N key = true) {k1 k2 : Nat} (h1 : homeI N.one key = k1) (h2 : homeI N.two key = k2) (x1 : nth N.zs k1 ≠ key) (x2 : nth N.zs k2 ≠ key) : fndN N key = -1 ∧ hasN N key = false := by
  have e := fndN_yes h
  rcases fnd_cases N.zs key with ⟨e1, _⟩ | ⟨k, hk, e1, hx, _⟩
  · refine ⟨by omega, ?_⟩
    simp only [hasN, decide_eq_false_iff_not]
    omega
  · exfalso
    rcases (fnd_home h hk hx).2 with e2 | e2
    · obtain rfl : k1 = k := by omega
      exact x1 hx
    · obtain rfl : k2 = k := by omega
      exact x2 hx

theorem askN_len {N : Nst} {key : Int} (h : askN N key = true) : validB N.one = true ∧ validB N.two = true ∧ 1 ≤ N.zs.length ∧ N.zs.length ≤ 16 := by
  obtain ⟨v1, v2, _⟩ := nestB_iff.1 (askN_parts h).1
  have := (valid_facts v1).1
  exact ⟨v1, v2, this.1, this.2⟩
/-- The homes as slots. -/
theorem home_slot {T : Tab} (h : validB T = true) (key : Int) : ∃ k : Nat, homeI T key = k ∧ k < T.zs.length := by
  obtain ⟨h1, h2⟩ := homeI_bounds h key
  exact ⟨(homeI T key).toNat, by omega, by omega⟩

def zeroN : Nst := ⟨0, 0, 0, 0, []⟩
/-- PullKey of the document. -/
def pullN (N : Nst) (key : Int) : Nst := if hasN N key then ⟨N.t, N.p, N.m, N.g, N.zs.set (fndN N key).toNat (-1)⟩ else zeroN
theorem pull_no {N : Nst} {key : Int} (h : hasN N key = false) : pullN N key = zeroN := by simp [pullN, h]
theorem pull_yes {N : Nst} {key : Int} {k : Nat} (h : fndN N key = k) : pullN N key = ⟨N.t, N.p, N.m, N.g, N.zs.set k (-1)⟩ ∧ hasN N key = true := by
  have : hasN N key = true := by simp [hasN, h]
  refine ⟨?_, this⟩
  rw [pullN, if_pos this, h]
  rfl
theorem has_parts {N : Nst} {key : Int} (h : hasN N key = true) : askN N key = true ∧ ∃ k : Nat, fndN N key = k ∧ k < N.zs.length := by
  cases ha : askN N key
  · rw [(fndN_no ha).2] at h; cases h
  · refine ⟨rfl, ?_⟩
    have e := fndN_yes ha
    simp only [hasN, decide_eq_true_eq] at h
    rcases fnd_cases N.zs key with ⟨e1, _⟩ | ⟨k, hk, e1, _, _⟩
    · omega
    · exact ⟨k, by omega, hk⟩
theorem pull_len (N : Nst) (key : Int) : (pullN N key).zs.length ≤ 16 := by
  cases h : hasN N key
  · rw [pull_no h]; exact Nat.zero_le _
  · obtain ⟨ha, k, hk, _⟩ := has_parts h
    rw [(pull_yes hk).1]
    simp only [List.length_set]
    exact (askN_len ha).2.2.2

/-- NewNest of the document. -/
def newOkN (s t p m g : Int) : Bool := headB s t p && headB s m g
def newNst (s t p m g : Int) : Nst := if newOkN s t p m g then ⟨t, p, m, g, List.replicate s.toNat (-1)⟩ else zeroN
theorem newN_yes {s t p m g : Int} (h : newOkN s t p m g = true) : newNst s t p m g = ⟨t, p, m, g, List.replicate s.toNat (-1)⟩ := by simp [newNst, h]
theorem newN_no {s t p m g : Int} (h : newOkN s t p m g = false) : newNst s t p m g = zeroN := by simp [newNst, h]
theorem newN_len (s t p m g : Int) : (newNst s t p m g).zs.length ≤ 16 := by
  cases h : newOkN s t p m g
  · rw [newN_no h]; exact Nat.zero_le _
  · rw [newN_yes h]
    simp only [newOkN, Bool.and_eq_true] at h
    have := inB_iff.1 (head_size h.1).1
    simp only [List.length_replicate]
    omega

theorem rep_nth {n : Nat} {x : Int} {i : Nat} (h : i < n) : nth (List.replicate n x) i = x := by simp [nth, h]
/-- A row of free slots is valid just as its numbers are. -/
theorem free_valid {n : Nat} {t p : Int} : validB ⟨t, p, List.replicate n (-1)⟩ = headB n t p := by
  cases h : headB n t p
  · simp [validB, h]
  · rw [validB_iff]
    refine ⟨by simpa using h, fun i hi => ?_⟩
    simp only [List.length_replicate] at hi
    rw [rep_nth hi]
    exact ⟨rfl, fun h0 => by omega⟩
theorem free_nest {n : Nat} {t p m g : Int} : nestB ⟨t, p, m, g, List.replicate n (-1)⟩ = (headB n t p && headB n m g) := by
  rw [nestB]
  rw [free_valid, free_valid]
  cases headB n t p
  · rfl
  · cases headB n m g
    · rfl
    · simp only [Bool.true_and, decide_eq_true_eq]
      intro i hi
      simp only [List.length_replicate] at hi
      rw [fitK, rep_nth hi]
      rfl
theorem zero_nest {m g : Int} {t p : Int} : nestB ⟨t, p, m, g, []⟩ = false := by
  have : validB ⟨t, p, []⟩ = false := by simp [validB, headB, inB]
  exact nest_no1 this

end Go.Proofs.YtojmjhojgfopaaaDoor

namespace Go.Proofs.YtojmjhojgfopaaaDoor

/-- The slot in front of a slot. -/
def prevS (T : Tab) (i : Nat) : Nat := (i + T.zs.length - 1) % T.zs.length
theorem prevS_lt {T : Tab} (hn : 1 ≤ T.zs.length) (i : Nat) : prevS T i < T.zs.length := Nat.mod_lt _ (by omega)
theorem prev_cast {T : Tab} (hn : 1 ≤ T.zs.length) (i : Nat) : ((i : Int) + (T.zs.length : Int) - 1) % (T.zs.length : Int) = (prevS T i : Int) := by
  have : ((i : Int) + (T.zs.length : Int) - 1) = ((i + T.zs.length - 1 : Nat) : Int) := by omega
  rw [this, prevS, Int.natCast_emod]

/-- A run opens at a slot. -/
def startB (T : Tab) (i : Nat) : Bool := (nth T.zs i != -1) && !(decide (1 < T.zs.length) && (nth T.zs (prevS T i) != -1))
/-- How many slots in a row are not free, from a slot on. -/
def sizeFrom (T : Tab) (i : Nat) : Nat := goN (fun j => nth T.zs (stepS T i j) == -1) T.zs.length
def runsTo (T : Tab) (k : Nat) : List (Nat × Nat) := ((List.range k).filter (startB T)).map fun i => (i, sizeFrom T i)
/-- The runs of a valid table. -/
def runsL (T : Tab) : List (Nat × Nat) := if (runsTo T T.zs.length).length = 0 ∧ nth T.zs 0 ≠ -1 then [(0, T.zs.length)] else runsTo T T.zs.length

theorem runsTo_yes {T : Tab} {k : Nat} (h : startB T k = true) : runsTo T (k + 1) = runsTo T k ++ [(k, sizeFrom T k)] := by
  simp [runsTo, List.range_succ, List.filter_append, h]
theorem runsTo_no {T : Tab} {k : Nat} (h : startB T k = false) : runsTo T (k + 1) = runsTo T k := by
  simp [runsTo, List.range_succ, List.filter_append, h]
theorem runsTo_len (T : Tab) (k : Nat) : (runsTo T k).length ≤ k := by
  simp only [runsTo, List.length_map]
  exact Nat.le_trans (List.length_filter_le _ _) (by simp)

end Go.Proofs.YtojmjhojgfopaaaDoor

/-
  Tables, finding, putting and runs as plain functions, and what is true of them. No program.
-/
import Derived.RowKit3
namespace Go.Proofs.Ytbkghcmeebhinaa

/-- A table as data. -/
structure Tab where
  t : Int
  p : Int
  zs : List Int

/-- lo to hi, both included -/
def inB (n lo hi : Int) : Bool := decide (lo ≤ n) && decide (n ≤ hi)
theorem inB_true {n lo hi : Int} (h : lo ≤ n ∧ n ≤ hi) : inB n lo hi = true := by simp [inB, h]
theorem inB_iff {n lo hi : Int} : inB n lo hi = true ↔ lo ≤ n ∧ n ≤ hi := by simp [inB]
theorem inB_false {n lo hi : Int} : inB n lo hi = false ↔ ¬ (lo ≤ n ∧ n ≤ hi) := by rw [← inB_iff]; simp

/-- The head of a table: its size, Times and Plus. -/
def headB (size times plus : Int) : Bool := inB size 1 16 && (inB times 0 15 && inB plus 0 15)
theorem head_size {n t p : Int} (h : headB n t p = true) : inB n 1 16 = true ∧ inB t 0 15 = true ∧ inB p 0 15 = true := by simpa [headB, and_assoc] using h

/-- What slot i of a list holds (0 behind its end). -/
abbrev nth (zs : List Int) (i : Nat) : Int := zs[i]?.getD 0

/-- The first k slots hold keys, free slots or tombs, and no key twice. -/
def Good (zs : List Int) (k : Nat) : Prop := ∀ i, i < k → inB (nth zs i) (-2) 99 = true ∧ (0 ≤ nth zs i → ∀ j, j < i → nth zs j ≠ nth zs i)
instance (zs : List Int) (k : Nat) : Decidable (Good zs k) := by unfold Good; infer_instance

def validB (T : Tab) : Bool := headB T.zs.length T.t T.p && decide (Good T.zs T.zs.length)
theorem validB_iff {T : Tab} : validB T = true ↔ headB T.zs.length T.t T.p = true ∧ Good T.zs T.zs.length := by simp [validB]

theorem Good.zero (zs : List Int) : Good zs 0 := fun _ h => by omega
theorem Good.succ {zs : List Int} {k : Nat} (h : Good zs k) (h1 : inB (nth zs k) (-2) 99 = true) (h2 : 0 ≤ nth zs k → ∀ j, j < k → nth zs j ≠ nth zs k) : Good zs (k + 1) := by
  intro i hi
  by_cases e : i = k
  · subst e; exact ⟨h1, h2⟩
  · exact h i (by omega)
theorem not_good {zs : List Int} {k n : Nat} (hk : k < n) (h : ¬ (inB (nth zs k) (-2) 99 = true ∧ (0 ≤ nth zs k → ∀ j, j < k → nth zs j ≠ nth zs k))) : ¬ Good zs n := fun hg => h (hg k hk)

/-- The first slot that holds n, or -1. -/
def fnd (zs : List Int) (n : Int) : Int := if zs.findIdx (· == n) < zs.length then zs.findIdx (· == n) else -1
theorem fnd_at {zs : List Int} {n : Int} {k : Nat} (hk : k < zs.length) (h : ∀ j, j < k → nth zs j ≠ n) (he : nth zs k = n) : fnd zs n = k := by
  have e : zs.findIdx (· == n) = k := by
    refine (List.findIdx_eq hk).2 ⟨?_, fun j hj => ?_⟩
    · rw [nth, List.getElem?_eq_getElem hk] at he
      simpa using he
    · have := h j hj
      rw [nth, List.getElem?_eq_getElem (by omega)] at this
      simpa using this
  simp [fnd, e, hk]
theorem fnd_none {zs : List Int} {n : Int} (h : ∀ j, j < zs.length → nth zs j ≠ n) : fnd zs n = -1 := by
  have e : zs.findIdx (· == n) = zs.length := by
    rw [List.findIdx_eq_length]
    intro x hx
    obtain ⟨j, hj, rfl⟩ := List.mem_iff_getElem.1 hx
    have := h j hj
    rw [nth, List.getElem?_eq_getElem hj] at this
    simpa using this
  simp [fnd, e]
theorem fnd_cases (zs : List Int) (n : Int) : (fnd zs n = -1 ∧ ∀ j, j < zs.length → nth zs j ≠ n) ∨ (∃ k : Nat, k < zs.length ∧ fnd zs n = k ∧ nth zs k = n ∧ ∀ j, j < k → nth zs j ≠ n) := by
  by_cases h : zs.findIdx (· == n) < zs.length
  · right
    refine ⟨zs.findIdx (· == n), h, by simp [fnd, h], ?_, fun j hj => ?_⟩
    · have := List.findIdx_getElem (w := h)
      rw [nth, List.getElem?_eq_getElem h]
      simpa using this
    · have := List.not_of_lt_findIdx hj
      rw [nth, List.getElem?_eq_getElem (by omega)]
      simpa using this
  · left
    refine ⟨by simp [fnd, h], fun j hj => ?_⟩
    have h1 : zs.findIdx (· == n) = zs.length := Nat.le_antisymm (List.findIdx_le_length) (by omega)
    have := (List.findIdx_eq_length (p := (· == n))).1 h1 zs[j] (List.getElem_mem hj)
    rw [nth, List.getElem?_eq_getElem hj]
    simpa using this

theorem ne_step {zs : List Int} {n : Int} {k : Nat} (h : ∀ j, j < k → nth zs j ≠ n) (he : nth zs k ≠ n) : ∀ j, j < k + 1 → nth zs j ≠ n := by
  intro j hj
  by_cases e : j = k
  · subst e; exact he
  · exact h j (by omega)

theorem fnd_first {zs : List Int} {x : Int} {k : Nat} (hk : k < zs.length) (he : nth zs k = x) : fnd zs x = k ↔ ∀ j, j < k → nth zs j ≠ x := by
  constructor
  · intro h
    rcases fnd_cases zs x with ⟨h1, h2⟩ | ⟨m, hm, h1, h2, h3⟩
    · exact absurd he (h2 k hk)
    · obtain rfl : m = k := by omega
      exact h3
  · exact fun h => fnd_at hk h he
theorem fnd_step {zs : List Int} {x : Int} {k : Nat} (hk : k < zs.length) (he : nth zs k = x) (h : (fnd zs x != (k : Int)) = false) : 0 ≤ nth zs k → ∀ j, j < k → nth zs j ≠ nth zs k := by
  intro _
  rw [he]
  exact (fnd_first hk he).1 (by simpa using h)
theorem fnd_bad {zs : List Int} {x : Int} {k : Nat} (hk : k < zs.length) (he : nth zs k = x) (h0 : 0 ≤ x) (h : (fnd zs x != (k : Int)) = true) : ¬ (inB x (-2) 99 = true ∧ (0 ≤ x → ∀ j, j < k → nth zs j ≠ x)) := by
  intro hc
  have := (fnd_first hk he).2 (hc.2 h0)
  simp [this] at h

/-- The home of a key. -/
def homeI (T : Tab) (key : Int) : Int := (T.t * key + T.p) % T.zs.length

theorem mul_bounds {t k : Int} (h1 : 0 ≤ t) (h2 : t ≤ 15) (h3 : -2 ≤ k) (h4 : k ≤ 99) : -30 ≤ t * k ∧ t * k ≤ 1485 := by
  constructor
  · have := Int.mul_le_mul_of_nonneg_left h3 h1; omega
  · by_cases hk : 0 ≤ k
    · have := Int.mul_le_mul h2 h4 hk (by omega); omega
    · have := Int.mul_le_mul_of_nonneg_left (show k ≤ 0 by omega) h1; omega
theorem mul_nonneg' {t k : Int} (h1 : 0 ≤ t) (h3 : 0 ≤ k) : 0 ≤ t * k := Int.mul_nonneg h1 h3

/-- What a valid table gives. -/
theorem valid_facts {T : Tab} (h : validB T = true) : (1 ≤ T.zs.length ∧ T.zs.length ≤ 16) ∧ (0 ≤ T.t ∧ T.t ≤ 15) ∧ (0 ≤ T.p ∧ T.p ≤ 15) ∧ Good T.zs T.zs.length := by
  obtain ⟨h1, h2⟩ := validB_iff.1 h
  obtain ⟨a, b, c⟩ := head_size h1
  obtain ⟨a1, a2⟩ := inB_iff.1 a
  exact ⟨⟨by omega, by omega⟩, inB_iff.1 b, inB_iff.1 c, h2⟩
theorem valid_slot {T : Tab} (h : validB T = true) {i : Nat} (hi : i < T.zs.length) : -2 ≤ nth T.zs i ∧ nth T.zs i ≤ 99 := inB_iff.1 ((valid_facts h).2.2.2 i hi).1

theorem homeI_bounds {T : Tab} (h : validB T = true) (key : Int) : 0 ≤ homeI T key ∧ homeI T key < T.zs.length := by
  have h1 := (valid_facts h).1
  exact ⟨Int.emod_nonneg _ (by omega), Int.emod_lt_of_pos _ (by omega)⟩

theorem tmod_bounds (x : Int) {n : Int} (hn : 0 < n) : -n < x.tmod n ∧ x.tmod n < n := by
  have h2 := Int.tmod_lt_of_pos x hn
  refine ⟨?_, h2⟩
  have h3 := Int.tmod_lt_of_pos (-x) hn
  rw [Int.neg_tmod] at h3
  omega
theorem wrap_mod (x n : Int) : (x.tmod n + n) % n = x % n := by
  have h : n * x.tdiv n + x.tmod n = x := Int.mul_tdiv_add_tmod x n
  have e : x % n = (x.tmod n + n * x.tdiv n) % n := by rw [Int.add_comm (x.tmod n), h]
  rw [Int.add_emod_right, e, Int.add_mul_emod_self_left]

/-- HomeOf of the document. -/
def homeOf (T : Tab) (key : Int) : Int := if validB T && inB key 0 99 then homeI T key else -1
theorem homeOf_no {T : Tab} {key : Int} (h : validB T = false ∨ inB key 0 99 = false) : -1 = homeOf T key := by
  unfold homeOf
  rcases h with h | h <;> simp [h]
theorem homeOf_yes {T : Tab} {key : Int} (h : validB T = true) (hk : inB key 0 99 = true) : homeI T key = homeOf T key := by simp [homeOf, h, hk]

end Go.Proofs.Ytbkghcmeebhinaa

namespace Go.Proofs.Ytbkghcmeebhinaa

/-- AwayOf of the document. -/
def awayOf (T : Tab) (slot : Int) : Int :=
  if validB T && inB slot 0 (T.zs.length - 1) && decide (0 ≤ nth T.zs slot.toNat) then (slot - homeI T (nth T.zs slot.toNat)) % T.zs.length else -1
theorem awayOf_no {T : Tab} {slot : Int} (h : validB T = false ∨ inB slot 0 (T.zs.length - 1) = false ∨ nth T.zs slot.toNat < 0) : -1 = awayOf T slot := by
  unfold awayOf
  rcases h with h | h | h
  · simp [h]
  · simp [h]
  · simp only [show ¬ 0 ≤ nth T.zs slot.toNat by omega, decide_false, Bool.and_false]; rfl
theorem awayOf_yes {T : Tab} {k : Nat} {x : Int} (h : validB T = true) (hk : k < T.zs.length) (hx : nth T.zs k = x) (h0 : 0 ≤ x) : ((k : Int) - homeI T x) % T.zs.length = awayOf T k := by
  have h1 : inB (k : Int) 0 (T.zs.length - 1) = true := inB_true (by omega)
  subst hx
  unfold awayOf
  rw [if_pos (by simp only [h, h1, Int.toNat_natCast, Bool.true_and, decide_eq_true_eq]; exact h0), Int.toNat_natCast]

/-- How many of the first k slots are so. -/
def cnt (p : Int → Bool) (zs : List Int) (k : Nat) : Nat := (zs.take k).countP p
theorem cnt_zero (p : Int → Bool) (zs : List Int) : cnt p zs 0 = 0 := by simp [cnt]
theorem cnt_succ {p : Int → Bool} {zs : List Int} {k : Nat} {x : Int} (hk : k < zs.length) (hx : nth zs k = x) : cnt p zs (k + 1) = cnt p zs k + (if p x then 1 else 0) := by
  have h : zs[k] = x := by simpa [nth, List.getElem?_eq_getElem hk] using hx
  rw [cnt, List.take_succ_eq_append_getElem hk, List.countP_append, h]
  simp [cnt, List.countP_cons]
theorem cnt_le (p : Int → Bool) (zs : List Int) (k : Nat) : cnt p zs k ≤ zs.length := Nat.le_trans List.countP_le_length (by simp; omega)
def keyP (x : Int) : Bool := !(x == -1) && !(x == -2)
def tombP (x : Int) : Bool := x == -2
def freeP (x : Int) : Bool := x == -1
/-- CountSlots of the document. -/
def countK (T : Tab) : Int := if validB T then cnt keyP T.zs T.zs.length else -1
def countT (T : Tab) : Int := if validB T then cnt tombP T.zs T.zs.length else -1
def countF (T : Tab) : Int := if validB T then cnt freeP T.zs T.zs.length else -1

/-- The keys below j that a list has, in order. -/
def sortTo (zs : List Int) (j : Nat) : List Int := ((List.range j).filter (fun k : Nat => decide (0 ≤ fnd zs k))).map (fun k : Nat => (k : Int))
/-- The keys of a list, in order, each once. -/
def sortU (zs : List Int) : List Int := sortTo zs 100
theorem sortTo_zero (zs : List Int) : sortTo zs 0 = [] := rfl
theorem sortTo_yes {zs : List Int} {j : Nat} (h : 0 ≤ fnd zs j) : sortTo zs (j + 1) = sortTo zs j ++ [(j : Int)] := by
  simp [sortTo, List.range_succ, List.filter_append, h]
theorem sortTo_no {zs : List Int} {j : Nat} (h : fnd zs j < 0) : sortTo zs (j + 1) = sortTo zs j := by
  have : ¬ 0 ≤ fnd zs j := by omega
  simp [sortTo, List.range_succ, List.filter_append, this]
theorem sortTo_len (zs : List Int) (j : Nat) : (sortTo zs j).length ≤ j := by
  simp only [sortTo, List.length_map]
  exact Nat.le_trans (List.length_filter_le _ _) (by simp)
theorem mem_sortTo {zs : List Int} {j : Nat} {x : Int} : x ∈ sortTo zs j ↔ ∃ k : Nat, k < j ∧ x = k ∧ 0 ≤ fnd zs k := by
  simp only [sortTo, List.mem_map, List.mem_filter, List.mem_range, decide_eq_true_eq]
  constructor
  · rintro ⟨k, ⟨h1, h2⟩, rfl⟩; exact ⟨k, h1, rfl, h2⟩
  · rintro ⟨k, h1, rfl, h2⟩; exact ⟨k, ⟨h1, h2⟩, rfl⟩

end Go.Proofs.Ytbkghcmeebhinaa

namespace Go.Proofs.Ytbkghcmeebhinaa

def mostTo (T : Tab) : Nat → Int
  | 0 => 0
  | j + 1 => max (mostTo T j) (awayOf T j)
def totTo (T : Tab) : Nat → Int
  | 0 => 0
  | j + 1 => totTo T j + max (awayOf T j) 0
def mostAway (T : Tab) : Int := if validB T then mostTo T T.zs.length else -1
def totalAway (T : Tab) : Int := if validB T then totTo T T.zs.length else -1

theorem awayOf_bounds (T : Tab) (s : Int) (hl : T.zs.length ≤ 16) : -1 ≤ awayOf T s ∧ awayOf T s ≤ 15 := by
  unfold awayOf
  split
  · rename_i h
    simp only [Bool.and_eq_true, decide_eq_true_eq] at h
    obtain ⟨⟨hv, _⟩, _⟩ := h
    obtain ⟨⟨l1, _⟩, _⟩ := valid_facts hv
    have h1 := Int.emod_nonneg (s - homeI T (nth T.zs s.toNat)) (b := (T.zs.length : Int)) (by omega)
    have h2 := Int.emod_lt_of_pos (s - homeI T (nth T.zs s.toNat)) (b := (T.zs.length : Int)) (by omega)
    omega
  · omega
theorem mostTo_bounds (T : Tab) (hl : T.zs.length ≤ 16) (j : Nat) : 0 ≤ mostTo T j ∧ mostTo T j ≤ 15 := by
  induction j with
  | zero => simp [mostTo]
  | succ j ih =>
    have := awayOf_bounds T j hl
    simp only [mostTo]; omega
theorem totTo_bounds (T : Tab) (hl : T.zs.length ≤ 16) (j : Nat) : 0 ≤ totTo T j ∧ totTo T j ≤ 15 * j := by
  induction j with
  | zero => simp [totTo]
  | succ j ih =>
    have := awayOf_bounds T j hl
    simp only [totTo]; omega

end Go.Proofs.Ytbkghcmeebhinaa

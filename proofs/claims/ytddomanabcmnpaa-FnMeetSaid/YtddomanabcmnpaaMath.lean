/-
  Tables, finding, putting and runs as plain functions, and what is true of them. No program.
-/
import Derived.RowKit3
import Derived.RangeFuncBox
import Derived.RangeFuncNested
import Derived.OwnWalkIn
import Derived.RangeFuncLeaves
namespace Go.Proofs.Ytddomanabcmnpaa

/-- A table as data. -/
structure Tab where
  t : Int
  p : Int
  zs : List Int

/-- lo to hi, both included -/
def inB (n lo hi : Int) : Bool := decide (lo ≤ n) && decide (n ≤ hi)
theorem inB_true {n lo hi : Int} (h : lo ≤ n ∧ n ≤ hi) : inB n lo hi = true := by simp [inB, h]
theorem inB_iff {n lo hi : Int} : inB n lo hi = true ↔ lo ≤ n ∧ n ≤ hi := by simp [inB]
theorem inB_false {n lo hi : Int} : inB n lo hi = false ↔ ¬ (lo ≤ n ∧ n ≤ hi) := by rw [← inB_iff]; simp

/-- The head of a table: its size, Times and Plus. -/
def headB (size times plus : Int) : Bool := inB size 1 16 && (inB times 0 15 && inB plus 0 15)
theorem head_size {n t p : Int} (h : headB n t p = true) : inB n 1 16 = true ∧ inB t 0 15 = true ∧ inB p 0 15 = true := by simpa [headB, and_assoc] using h

/-- What slot i of a list holds (0 behind its end). -/
abbrev nth (zs : List Int) (i : Nat) : Int := zs[i]?.getD 0

/-- The first k slots hold keys, free slots or tombs, and no key twice. -/
def Good (zs : List Int) (k : Nat) : Prop := ∀ i, i < k → inB (nth zs i) (-2) 99 = true ∧ (0 ≤ nth zs i → ∀ j, j < i → nth zs j ≠ nth zs i)
instance (zs : List Int) (k : Nat) : Decidable (Good zs k) := by unfold Good; infer_instance

def validB (T : Tab) : Bool := headB T.zs.length T.t T.p && decide (Good T.zs T.zs.length)
theorem validB_iff {T : Tab} : validB T = true ↔ headB T.zs.length T.t T.p = true ∧ Good T.zs T.zs.length := by simp [validB]

theorem Good.zero (zs : List Int) : Good zs 0 := fun _ h => by omega
theorem Good.succ {zs : List Int} {k : Nat} (h : Good zs k) (h1 : inB (nth zs k) (-2) 99 = true) (h2 : 0 ≤ nth zs k → ∀ j, j < k → nth zs j ≠ nth zs k) : Good zs (k + 1) := by
  intro i hi
  by_cases e : i = k
  · subst e; exact ⟨h1, h2⟩
  · exact h i (by omega)
theorem not_good {zs : List Int} {k n : Nat} (hk : k < n) (h : ¬ (inB (nth zs k) (-2) 99 = true ∧ (0 ≤ nth zs k → ∀ j, j < k → nth zs j ≠ nth zs k))) : ¬ Good zs n := fun hg => h (hg k hk)

/-- The first slot that holds n, or -1. -/
def fnd (zs : List Int) (n : Int) : Int := if zs.findIdx (· == n) < zs.length then zs.findIdx (· == n) else -1
theorem fnd_at {zs : List Int} {n : Int} {k : Nat} (hk : k < zs.length) (h : ∀ j, j < k → nth zs j ≠ n) (he : nth zs k = n) : fnd zs n = k := by
  have e : zs.findIdx (· == n) = k := by
    refine (List.findIdx_eq hk).2 ⟨?_, fun j hj => ?_⟩
    · rw [nth, List.getElem?_eq_getElem hk] at he
      simpa using he
    · have := h j hj
      rw [nth, List.getElem?_eq_getElem (by omega)] at this
      simpa using this
  simp [fnd, e, hk]
theorem fnd_none {zs : List Int} {n : Int} (h : ∀ j, j < zs.length → nth zs j ≠ n) : fnd zs n = -1 := by
  have e : zs.findIdx (· == n) = zs.length := by
    rw [List.findIdx_eq_length]
    intro x hx
    obtain ⟨j, hj, rfl⟩ := List.mem_iff_getElem.1 hx
    have := h j hj
    rw [nth, List.getElem?_eq_getElem hj] at this
    simpa using this
  simp [fnd, e]
theorem fnd_cases (zs : List Int) (n : Int) : (fnd zs n = -1 ∧ ∀ j, j < zs.length → nth zs j ≠ n) ∨ (∃ k : Nat, k < zs.length ∧ fnd zs n = k ∧ nth zs k = n ∧ ∀ j, j < k → nth zs j ≠ n) := by
  by_cases h : zs.findIdx (· == n) < zs.length
  · right
    refine ⟨zs.findIdx (· == n), h, by simp [fnd, h], ?_, fun j hj => ?_⟩
    · have := List.findIdx_getElem (w := h)
      rw [nth, List.getElem?_eq_getElem h]
      simpa using this
    · have := List.not_of_lt_findIdx hj
      rw [nth, List.getElem?_eq_getElem (by omega)]
      simpa using this
  · left
    refine ⟨by simp [fnd, h], fun j hj => ?_⟩
    have h1 : zs.findIdx (· == n) = zs.length := Nat.le_antisymm (List.findIdx_le_length) (by omega)
    have := (List.findIdx_eq_length (p := (· == n))).1 h1 zs[j] (List.getElem_mem hj)
    rw [nth, List.getElem?_eq_getElem hj]
    simpa using this

theorem ne_step {zs : List Int} {n : Int} {k : Nat} (h : ∀ j, j < k → nth zs j ≠ n) (he : nth zs k ≠ n) : ∀ j, j < k + 1 → nth zs j ≠ n := by
  intro j hj
  by_cases e : j = k
  · subst e; exact he
  · exact h j (by omega)

theorem fnd_first {zs : List Int} {x : Int} {k : Nat} (hk : k < zs.length) (he : nth zs k = x) : fnd zs x = k ↔ ∀ j, j < k → nth zs j ≠ x := by
  constructor
  · intro h
    rcases fnd_cases zs x with ⟨h1, h2⟩ | ⟨m, hm, h1, h2, h3⟩
    · exact absurd he (h2 k hk)
    · obtain rfl : m = k := by omega
      exact h3
  · exact fun h => fnd_at hk h he
theorem fnd_step {zs : List Int} {x : Int} {k : Nat} (hk : k < zs.length) (he : nth zs k = x) (h : (fnd zs x != (k : Int)) = false) : 0 ≤ nth zs k → ∀ j, j < k → nth zs j ≠ nth zs k := by
  intro _
  rw [he]
  exact (fnd_first hk he).1 (by simpa using h)
theorem fnd_bad {zs : List Int} {x : Int} {k : Nat} (hk : k < zs.length) (he : nth zs k = x) (h0 : 0 ≤ x) (h : (fnd zs x != (k : Int)) = true) : ¬ (inB x (-2) 99 = true ∧ (0 ≤ x → ∀ j, j < k → nth zs j ≠ x)) := by
  intro hc
  have := (fnd_first hk he).2 (hc.2 h0)
  simp [this] at h

/-- The home of a key. -/
def homeI (T : Tab) (key : Int) : Int := (T.t * key + T.p) % T.zs.length

theorem mul_bounds {t k : Int} (h1 : 0 ≤ t) (h2 : t ≤ 15) (h3 : -2 ≤ k) (h4 : k ≤ 99) : -30 ≤ t * k ∧ t * k ≤ 1485 := by
  constructor
  · have := Int.mul_le_mul_of_nonneg_left h3 h1; omega
  · by_cases hk : 0 ≤ k
    · have := Int.mul_le_mul h2 h4 hk (by omega); omega
    · have := Int.mul_le_mul_of_nonneg_left (show k ≤ 0 by omega) h1; omega
theorem mul_nonneg' {t k : Int} (h1 : 0 ≤ t) (h3 : 0 ≤ k) : 0 ≤ t * k := Int.mul_nonneg h1 h3

/-- What a valid table gives. -/
theorem valid_facts {T : Tab} (h : validB T = true) : (1 ≤ T.zs.length ∧ T.zs.length ≤ 16) ∧ (0 ≤ T.t ∧ T.t ≤ 15) ∧ (0 ≤ T.p ∧ T.p ≤ 15) ∧ Good T.zs T.zs.length := by
  obtain ⟨h1, h2⟩ := validB_iff.1 h
  obtain ⟨a, b, c⟩ := head_size h1
  obtain ⟨a1, a2⟩ := inB_iff.1 a
  exact ⟨⟨by omega, by omega⟩, inB_iff.1 b, inB_iff.1 c, h2⟩
theorem valid_slot {T : Tab} (h : validB T = true) {i : Nat} (hi : i < T.zs.length) : -2 ≤ nth T.zs i ∧ nth T.zs i ≤ 99 := inB_iff.1 ((valid_facts h).2.2.2 i hi).1

theorem homeI_bounds {T : Tab} (h : validB T = true) (key : Int) : 0 ≤ homeI T key ∧ homeI T key < T.zs.length := by
  have h1 := (valid_facts h).1
  exact ⟨Int.emod_nonneg _ (by omega), Int.emod_lt_of_pos _ (by omega)⟩

theorem tmod_bounds (x : Int) {n : Int} (hn : 0 < n) : -n < x.tmod n ∧ x.tmod n < n := by
  have h2 := Int.tmod_lt_of_pos x hn
  refine ⟨?_, h2⟩
  have h3 := Int.tmod_lt_of_pos (-x) hn
  rw [Int.neg_tmod] at h3
  omega
theorem wrap_mod (x n : Int) : (x.tmod n + n) % n = x % n := by
  have h : n * x.tdiv n + x.tmod n = x := Int.mul_tdiv_add_tmod x n
  have e : x % n = (x.tmod n + n * x.tdiv n) % n := by rw [Int.add_comm (x.tmod n), h]
  rw [Int.add_emod_right, e, Int.add_mul_emod_self_left]

/-- HomeOf of the document. -/
def homeOf (T : Tab) (key : Int) : Int := if validB T && inB key 0 99 then homeI T key else -1
theorem homeOf_no {T : Tab} {key : Int} (h : validB T = false ∨ inB key 0 99 = false) : -1 = homeOf T key := by
  unfold homeOf
  rcases h with h | h <;> simp [h]
theorem homeOf_yes {T : Tab} {key : Int} (h : validB T = true) (hk : inB key 0 99 = true) : homeI T key = homeOf T key := by simp [homeOf, h, hk]

end Go.Proofs.Ytddomanabcmnpaa

namespace Go.Proofs.Ytddomanabcmnpaa

/-- AwayOf of the document. -/
def awayOf (T : Tab) (slot : Int) : Int :=
  if validB T && inB slot 0 (T.zs.length - 1) && decide (0 ≤ nth T.zs slot.toNat) then (slot - homeI T (nth T.zs slot.toNat)) % T.zs.length else -1
theorem awayOf_no {T : Tab} {slot : Int} (h : validB T = false ∨ inB slot 0 (T.zs.length - 1) = false ∨ nth T.zs slot.toNat < 0) : -1 = awayOf T slot := by
  unfold awayOf
  rcases h with h | h | h
  · simp [h]
  · simp [h]
  · simp only [show ¬ 0 ≤ nth T.zs slot.toNat by omega, decide_false, Bool.and_false]; rfl
theorem awayOf_yes {T : Tab} {k : Nat} {x : Int} (h : validB T = true) (hk : k < T.zs.length) (hx : nth T.zs k = x) (h0 : 0 ≤ x) : ((k : Int) - homeI T x) % T.zs.length = awayOf T k := by
  have h1 : inB (k : Int) 0 (T.zs.length - 1) = true := inB_true (by omega)
  subst hx
  unfold awayOf
  rw [if_pos (by simp only [h, h1, Int.toNat_natCast, Bool.true_and, decide_eq_true_eq]; exact h0), Int.toNat_natCast]

/-- How many of the first k slots are so. -/
def cnt (p : Int → Bool) (zs : List Int) (k : Nat) : Nat := (zs.take k).countP p
theorem cnt_zero (p : Int → Bool) (zs : List Int) : cnt p zs 0 = 0 := by simp [cnt]
theorem cnt_succ {p : Int → Bool} {zs : List Int} {k : Nat} {x : Int} (hk : k < zs.length) (hx : nth zs k = x) : cnt p zs (k + 1) = cnt p zs k + (if p x then 1 else 0) := by
  have h : zs[k] = x := by simpa [nth, List.getElem?_eq_getElem hk] using hx
  rw [cnt, List.take_succ_eq_append_getElem hk, List.countP_append, h]
  simp [cnt, List.countP_cons]
theorem cnt_le (p : Int → Bool) (zs : List Int) (k : Nat) : cnt p zs k ≤ zs.length := Nat.le_trans List.countP_le_length (by simp; omega)
def keyP (x : Int) : Bool := !(x == -1) && !(x == -2)
def tombP (x : Int) : Bool := x == -2
def freeP (x : Int) : Bool := x == -1
/-- CountSlots of the document. -/
def countK (T : Tab) : Int := if validB T then cnt keyP T.zs T.zs.length else -1
def countT (T : Tab) : Int := if validB T then cnt tombP T.zs T.zs.length else -1
def countF (T : Tab) : Int := if validB T then cnt freeP T.zs T.zs.length else -1

/-- The keys below j that a list has, in order. -/
def sortTo (zs : List Int) (j : Nat) : List Int := ((List.range j).filter (fun k : Nat => decide (0 ≤ fnd zs k))).map (fun k : Nat => (k : Int))
/-- The keys of a list, in order, each once. -/
def sortU (zs : List Int) : List Int := sortTo zs 100
theorem sortTo_zero (zs : List Int) : sortTo zs 0 = [] := rfl
theorem sortTo_yes {zs : List Int} {j : Nat} (h : 0 ≤ fnd zs j) : sortTo zs (j + 1) = sortTo zs j ++ [(j : Int)] := by
  simp [sortTo, List.range_succ, List.filter_append, h]
theorem sortTo_no {zs : List Int} {j : Nat} (h : fnd zs j < 0) : sortTo zs (j + 1) = sortTo zs j := by
  have : ¬ 0 ≤ fnd zs j := by omega
  simp [sortTo, List.range_succ, List.filter_append, this]
theorem sortTo_len (zs : List Int) (j : Nat) : (sortTo zs j).length ≤ j := by
  simp only [sortTo, List.length_map]
  exact Nat.le_trans (List.length_filter_le _ _) (by simp)
theorem mem_sortTo {zs : List Int} {j : Nat} {x : Int} : x ∈ sortTo zs j ↔ ∃ k : Nat, k < j ∧ x = k ∧ 0 ≤ fnd zs k := by
  simp only [sortTo, List.mem_map, List.mem_filter, List.mem_range, decide_eq_true_eq]
  constructor
  · rintro ⟨k, ⟨h1, h2⟩, rfl⟩; exact ⟨k, h1, rfl, h2⟩
  · rintro ⟨k, h1, rfl, h2⟩; exact ⟨k, ⟨h1, h2⟩, rfl⟩

end Go.Proofs.Ytddomanabcmnpaa

namespace Go.Proofs.Ytddomanabcmnpaa

/-- How far one is from home behind i steps. -/
def farK (k s i : Nat) : Nat := if k = 1 then s * i * (i + 1) / 2 else if k = 2 then s * i * i else s * i
/-- How much farther the next step goes. -/
def moreK (k s i : Nat) : Nat := if k = 1 then s * (i + 1) else if k = 2 then s * (2 * i + 1) else s
theorem far_zero (k s : Nat) : farK k s 0 = 0 := by unfold farK; split <;> (try split) <;> simp
theorem far_more (k s i : Nat) : farK k s (i + 1) = farK k s i + moreK k s i := by
  unfold farK moreK
  split
  · have h : s * (i + 1) * (i + 1 + 1) = s * i * (i + 1) + s * (i + 1) * 2 := by grind
    rw [h, Nat.add_mul_div_right _ _ (by omega)]
  · split
    · grind
    · rw [Nat.mul_add, Nat.mul_one]
theorem more_le {k s i : Nat} (hs : s ≤ 16) (hi : i ≤ 16) : moreK k s i ≤ 528 := by
  unfold moreK
  split
  · exact Nat.le_trans (Nat.mul_le_mul hs (show i + 1 ≤ 17 by omega)) (by omega)
  · split
    · exact Nat.le_trans (Nat.mul_le_mul hs (show 2 * i + 1 ≤ 33 by omega)) (by omega)
    · omega

/-- The slot to which one has come behind i steps. -/
def atW (n k s h i : Nat) : Nat := (h + farK k s i) % n
theorem atW_lt {n : Nat} (hn : 1 ≤ n) (k s h i : Nat) : atW n k s h i < n := Nat.mod_lt _ hn
theorem atW_zero {n k s h : Nat} (hh : h < n) : atW n k s h 0 = h := by unfold atW; rw [far_zero, Nat.add_zero, Nat.mod_eq_of_lt hh]
theorem atW_succ (n k s h i : Nat) : (atW n k s h i + moreK k s i) % n = atW n k s h (i + 1) := by
  unfold atW; rw [far_more, Nat.mod_add_mod, Nat.add_assoc]
/-- The slots of a way. -/
def wayL (n k s h : Nat) : List Int := (List.range n).map fun i => ((atW n k s h i : Nat) : Int)
theorem wayL_len (n k s h : Nat) : (wayL n k s h).length = n := by simp [wayL]
theorem nth_wayL {n k s h i : Nat} (hi : i < n) : nth (wayL n k s h) i = (atW n k s h i : Nat) := by simp [wayL, nth, hi]
/-- The first i slots of a way. -/
def wayTo (n k s h i : Nat) : List Int := (List.range i).map fun i => ((atW n k s h i : Nat) : Int)
theorem wayTo_zero (n k s h : Nat) : wayTo n k s h 0 = [] := rfl
theorem wayTo_succ (n k s h i : Nat) : wayTo n k s h (i + 1) = wayTo n k s h i ++ [((atW n k s h i : Nat) : Int)] := by simp [wayTo, List.range_succ]
theorem wayTo_all (n k s h : Nat) : wayTo n k s h n = wayL n k s h := rfl
theorem wayTo_len (n k s h i : Nat) : (wayTo n k s h i).length = i := by simp [wayTo]

/-- Numbers tell a way. -/
def askW (n k s : Int) : Bool := inB n 1 16 && (inB k 0 2 && inB s 0 16)
theorem askW_iff {n k s : Int} : askW n k s = true ↔ (1 ≤ n ∧ n ≤ 16) ∧ (0 ≤ k ∧ k ≤ 2) ∧ 0 ≤ s ∧ s ≤ 16 := by simp [askW, inB_iff]
theorem askW_nat {n k s : Int} (h : askW n k s = true) : ∃ N K S : Nat, n = N ∧ k = K ∧ s = S ∧ 1 ≤ N ∧ N ≤ 16 ∧ K ≤ 2 ∧ S ≤ 16 := by
  have := askW_iff.1 h
  exact ⟨n.toNat, k.toNat, s.toNat, by omega, by omega, by omega, by omega, by omega, by omega, by omega⟩
theorem askW_of {n k s : Nat} (h1 : 1 ≤ n) (h2 : n ≤ 16) (h3 : k ≤ 2) (h4 : s ≤ 16) : askW n k s = true := askW_iff.2 ⟨by omega, by omega, by omega⟩
/-- Numbers tell a way and where it begins. -/
def asksW (n k s h : Int) : Bool := askW n k s && inB h 0 (n - 1)
theorem asksW_nat {n k s h : Int} (ha : asksW n k s h = true) : ∃ N K S H : Nat, n = N ∧ k = K ∧ s = S ∧ h = H ∧ 1 ≤ N ∧ N ≤ 16 ∧ K ≤ 2 ∧ S ≤ 16 ∧ H < N := by
  have h' : askW n k s = true ∧ inB h 0 (n - 1) = true := by simpa [asksW] using ha
  obtain ⟨N, K, S, rfl, rfl, rfl, h1, h2, h3, h4⟩ := askW_nat h'.1
  have := inB_iff.1 h'.2
  exact ⟨N, K, S, h.toNat, rfl, rfl, rfl, by omega, h1, h2, h3, h4, by omega⟩
theorem asksW_of {n k s h : Nat} (h1 : 1 ≤ n) (h2 : n ≤ 16) (h3 : k ≤ 2) (h4 : s ≤ 16) (h5 : h < n) : asksW n k s h = true := by
  unfold asksW; rw [askW_of h1 h2 h3 h4, Bool.true_and]; exact inB_iff.2 (by omega)
/-- WayOf's list. -/
def wayI (n k s h : Int) : List Int := if asksW n k s h then wayL n.toNat k.toNat s.toNat h.toNat else []
theorem wayI_no {n k s h : Int} (ha : asksW n k s h = false) : wayI n k s h = [] := by simp [wayI, ha]
theorem wayI_yes {n k s h : Nat} (ha : asksW n k s h = true) : wayI n k s h = wayL n k s h := by simp [wayI, ha]
theorem wayI_len (n k s h : Int) : (wayI n k s h).length ≤ 16 := by
  cases ha : asksW n k s h
  · simp [wayI, ha]
  · obtain ⟨N, K, S, H, rfl, rfl, rfl, rfl, h1, h2, h3, h4, h5⟩ := asksW_nat ha
    rw [wayI_yes ha, wayL_len]; exact h2

/-- One comes to slot j. -/
def hitW (n k s j : Nat) : Bool := (List.range n).any fun i => atW n k s 0 i == j
/-- One comes to slot j by the first m slots. -/
def hitTo (n k s m j : Nat) : Bool := (List.range m).any fun i => atW n k s 0 i == j
theorem hitTo_all (n k s j : Nat) : hitTo n k s n j = hitW n k s j := rfl
theorem hitTo_zero (n k s j : Nat) : hitTo n k s 0 j = false := rfl
theorem hitTo_succ (n k s m j : Nat) : hitTo n k s (m + 1) j = (hitTo n k s m j || atW n k s 0 m == j) := by simp [hitTo, List.range_succ]
theorem hit_lt {n k s j : Nat} (hn : 1 ≤ n) (h : hitW n k s j = true) : j < n := by
  obtain ⟨i, _, e⟩ := List.any_eq_true.1 h
  have := atW_lt hn k s 0 i
  have : atW n k s 0 i = j := by simpa using e
  omega
theorem hit_iff {n k s j : Nat} : hitW n k s j = true ↔ ((j : Int) ∈ wayL n k s 0) := by
  simp only [hitW, wayL, List.any_eq_true, List.mem_range, List.mem_map, beq_iff_eq]
  constructor
  · rintro ⟨i, hi, e⟩; exact ⟨i, hi, by rw [e]⟩
  · rintro ⟨i, hi, e⟩; exact ⟨i, hi, by omega⟩
/-- How many slots one comes to. -/
def reachN (n k s : Nat) : Nat := (List.range 16).countP (hitW n k s)
/-- How many of the first m. -/
def reachTo (n k s m : Nat) : Nat := (List.range m).countP (hitW n k s)
theorem reachTo_zero (n k s : Nat) : reachTo n k s 0 = 0 := rfl
theorem reachTo_yes {n k s m : Nat} (h : hitW n k s m = true) : reachTo n k s (m + 1) = reachTo n k s m + 1 := by simp [reachTo, List.range_succ, List.countP_append, h]
theorem reachTo_no {n k s m : Nat} (h : hitW n k s m = false) : reachTo n k s (m + 1) = reachTo n k s m := by simp [reachTo, List.range_succ, List.countP_append, h]
theorem reachTo_le (n k s m : Nat) : reachTo n k s m ≤ m := by
  have : (List.range m).countP (hitW n k s) ≤ (List.range m).length := List.countP_le_length
  simpa [reachTo] using this
theorem reachTo_same {n k s m : Nat} (hn : 1 ≤ n) : ∀ d, n ≤ m → reachTo n k s (m + d) = reachTo n k s m
  | 0, _ => rfl
  | d + 1, hm => by
    rw [← Nat.add_assoc, reachTo_no, reachTo_same hn d hm]
    cases h : hitW n k s (m + d) with
    | false => rfl
    | true => have := hit_lt hn h; omega
theorem reach_to {n k s : Nat} (h1 : 1 ≤ n) (h2 : n ≤ 16) : reachN n k s = reachTo n k s n := by
  have := reachTo_same (k := k) (s := s) (m := n) h1 (16 - n) (Nat.le_refl _)
  rw [show n + (16 - n) = 16 by omega] at this
  exact this
theorem reach_le {n k s : Nat} (h1 : 1 ≤ n) (h2 : n ≤ 16) : reachN n k s ≤ n := by rw [reach_to h1 h2]; exact reachTo_le ..
theorem hit_home {n k s : Nat} (h1 : 1 ≤ n) : hitW n k s 0 = true := List.any_eq_true.2 ⟨0, List.mem_range.2 h1, by rw [atW_zero h1]; rfl⟩
theorem reach_pos {n k s : Nat} (h1 : 1 ≤ n) : 1 ≤ reachN n k s := by
  have : 0 < (List.range 16).countP (hitW n k s) := List.countP_pos_iff.2 ⟨0, by simp, hit_home h1⟩
  exact this
theorem reach_all {n k s : Nat} (h1 : 1 ≤ n) (h2 : n ≤ 16) : reachN n k s = n ↔ ∀ j, j < 16 → hitW n k s j = decide (j < n) := by
  rw [reach_to h1 h2]
  have e : reachTo n k s n = n ↔ ∀ a ∈ List.range n, hitW n k s a = true := by
    have := List.countP_eq_length (p := hitW n k s) (l := List.range n)
    rw [List.length_range] at this
    exact this
  rw [e]
  constructor
  · intro h j _
    by_cases hj : j < n
    · rw [h j (List.mem_range.2 hj), decide_eq_true hj]
    · rw [decide_eq_false hj]
      cases hh : hitW n k s j with
      | false => rfl
      | true => exact absurd (hit_lt h1 hh) hj
  · intro h a ha
    have ha := List.mem_range.1 ha
    rw [h a (by omega), decide_eq_true ha]
theorem fnd_mem {zs : List Int} {x : Int} : 0 ≤ fnd zs x ↔ x ∈ zs := by
  unfold fnd
  constructor
  · intro h
    split at h
    · rename_i h2
      have := List.findIdx_getElem (w := h2)
      have e : zs[zs.findIdx (· == x)] = x := by simpa using this
      rw [← e]; exact List.getElem_mem _
    · omega
  · intro h
    rw [if_pos (List.findIdx_lt_length_of_exists ⟨x, h, by simp⟩)]
    omega
theorem sort_reach {n k s : Nat} (h1 : 1 ≤ n) (h2 : n ≤ 16) : (sortU (wayL n k s 0)).length = reachN n k s := by
  have e : (sortU (wayL n k s 0)).length = reachTo n k s 100 := by
    unfold sortU sortTo reachTo
    rw [List.length_map, List.countP_eq_length_filter]
    congr 1
    refine List.filter_congr fun j _ => ?_
    cases h : hitW n k s j with
    | true => exact decide_eq_true (fnd_mem.2 (hit_iff.1 h))
    | false =>
      refine decide_eq_false fun h' => ?_
      rw [hit_iff.2 (fnd_mem.1 h')] at h; cases h
  rw [e, reach_to h1 h2, ← reachTo_same h1 (100 - n) (Nat.le_refl _), show n + (100 - n) = 100 by omega]

/-- ReachOf of the document. -/
def reachI (n k s : Int) : Int := if askW n k s then (reachN n.toNat k.toNat s.toNat : Nat) else -1
theorem reachI_no {n k s : Int} (h : askW n k s = false) : reachI n k s = -1 := by simp [reachI, h]
theorem reachI_yes {n k s : Nat} (h : askW n k s = true) : reachI n k s = (reachN n k s : Nat) := by simp [reachI, h]
/-- IsWhole of the document. -/
def wholeB (n k s : Int) : Bool := askW n k s && decide (reachN n.toNat k.toNat s.toNat = n.toNat)
theorem wholeB_no {n k s : Int} (h : askW n k s = false) : wholeB n k s = false := by simp [wholeB, h]
theorem wholeB_yes {n k s : Nat} (h : askW n k s = true) : wholeB n k s = decide (reachN n k s = n) := by simp [wholeB, h]
theorem wholeB_reach (n k s : Int) : (decide (0 ≤ reachI n k s) && decide (reachI n k s = n)) = wholeB n k s := by
  cases h : askW n k s
  · rw [reachI_no h, wholeB_no h]; rfl
  · obtain ⟨N, K, S, rfl, rfl, rfl, h1, h2, h3, h4⟩ := askW_nat h
    rw [reachI_yes h, wholeB_yes h]
    by_cases e : reachN N K S = N
    · rw [decide_eq_true e, e]; simp
    · rw [decide_eq_false e, decide_eq_false (p := ((reachN N K S : Nat) : Int) = (N : Int)) (by omega), Bool.and_false]

/-- The steps below j with which one comes to all slots. -/
def stepsTo (n j : Nat) : List Int := ((List.range j).filter fun s => decide (reachN n 0 s = n)).map fun s : Nat => (s : Int)
theorem stepsTo_zero (n : Nat) : stepsTo n 0 = [] := rfl
theorem stepsTo_yes {n j : Nat} (h : decide (reachN n 0 j = n) = true) : stepsTo n (j + 1) = stepsTo n j ++ [(j : Int)] := by simp [stepsTo, List.range_succ, List.filter_append, of_decide_eq_true h]
theorem stepsTo_no {n j : Nat} (h : decide (reachN n 0 j = n) = false) : stepsTo n (j + 1) = stepsTo n j := by simp [stepsTo, List.range_succ, List.filter_append, of_decide_eq_false h]
theorem stepsTo_len (n j : Nat) : (stepsTo n j).length ≤ j := by
  simp only [stepsTo, List.length_map]
  exact Nat.le_trans (List.length_filter_le _ _) (by simp)
theorem mem_stepsTo {n j s : Nat} : (s : Int) ∈ stepsTo n j ↔ s < j ∧ reachN n 0 s = n := by
  simp only [stepsTo, List.mem_map, List.mem_filter, List.mem_range, decide_eq_true_eq]
  constructor
  · rintro ⟨a, ⟨h1, h2⟩, e⟩
    obtain rfl : a = s := by omega
    exact ⟨h1, h2⟩
  · rintro ⟨h1, h2⟩; exact ⟨s, ⟨h1, h2⟩, rfl⟩
def stepsI (n : Int) : List Int := if inB n 1 16 then stepsTo n.toNat n.toNat else []
theorem stepsI_no {n : Int} (h : inB n 1 16 = false) : stepsI n = [] := by simp [stepsI, h]
theorem stepsI_yes {n : Nat} (h : inB n 1 16 = true) : stepsI n = stepsTo n n := by simp [stepsI, h]
theorem stepsI_len (n : Int) : (stepsI n).length ≤ 16 := by
  cases h : inB n 1 16
  · simp [stepsI, h]
  · have h' := inB_iff.1 h
    have := stepsTo_len n.toNat n.toNat
    simp only [stepsI, h, if_true]
    omega

/-- Where two even ways meet first, of the first m places; m if nowhere. -/
def meetN (n f o s t : Nat) : Nat := (List.range n).findIdx fun i => atW n 0 o f i == atW n 0 t s i
theorem meetN_le (n f o s t : Nat) : meetN n f o s t ≤ n := by
  have := List.findIdx_le_length (p := fun i => atW n 0 o f i == atW n 0 t s i) (xs := List.range n)
  simpa [meetN] using this
theorem meetN_at {n f o s t i : Nat} (hi : i < n) (h : ∀ j, j < i → atW n 0 o f j ≠ atW n 0 t s j) (he : atW n 0 o f i = atW n 0 t s i) : meetN n f o s t = i := by
  refine (List.findIdx_eq (by simpa using hi)).2 ⟨by simpa using he, fun j hj => ?_⟩
  simpa using h j hj
theorem meetN_no {n f o s t : Nat} (h : ∀ j, j < n → atW n 0 o f j ≠ atW n 0 t s j) : meetN n f o s t = n := by
  have : (List.range n).findIdx (fun i => atW n 0 o f i == atW n 0 t s i) = (List.range n).length := by
    rw [List.findIdx_eq_length]
    intro x hx
    simpa using h x (List.mem_range.1 hx)
  simpa [meetN] using this
theorem meetN_is {n f o s t : Nat} (h : meetN n f o s t < n) : atW n 0 o f (meetN n f o s t) = atW n 0 t s (meetN n f o s t) := by
  have h' : (List.range n).findIdx (fun i => atW n 0 o f i == atW n 0 t s i) < (List.range n).length := by simpa [meetN] using h
  have := List.findIdx_getElem (w := h')
  simpa [meetN] using this
theorem meetN_turn (n f o s t : Nat) : meetN n f o s t = meetN n s t f o := by
  unfold meetN
  congr 1
  funext i
  exact Bool.eq_iff_iff.2 (by simp only [beq_iff_eq]; exact ⟨Eq.symm, Eq.symm⟩)
/-- MeetAt of the document. -/
def meetI (n f o s t : Int) : Int :=
  if asksW n 0 o f && asksW n 0 t s then (if meetN n.toNat f.toNat o.toNat s.toNat t.toNat < n.toNat then (meetN n.toNat f.toNat o.toNat s.toNat t.toNat : Nat) else -1) else -1
theorem meetI_no {n f o s t : Int} (h : asksW n 0 o f = false ∨ asksW n 0 t s = false) : meetI n f o s t = -1 := by
  rcases h with h | h <;> simp [meetI, h]
theorem meetI_yes {n f o s t : Nat} (h : asksW n 0 o f = true) (h' : asksW n 0 t s = true) (hm : meetN n f o s t < n) : meetI n f o s t = (meetN n f o s t : Nat) := by simp [meetI, h, h', hm]
theorem meetI_none {n f o s t : Nat} (h : asksW n 0 o f = true) (h' : asksW n 0 t s = true) (hm : meetN n f o s t = n) : meetI n f o s t = -1 := by simp [meetI, h, h', hm]
theorem meetI_turn (n f o s t : Int) : meetI n f o s t = meetI n s t f o := by
  unfold meetI
  rw [Bool.and_comm, meetN_turn]

/-- The greatest number that divides both. -/
def shareI (a b : Int) : Int := if a < 0 ∨ b < 0 then -1 else (Nat.gcd a.toNat b.toNat : Nat)
theorem shareI_no {a b : Int} (h : a < 0 ∨ b < 0) : shareI a b = -1 := by simp [shareI, h]
theorem shareI_nat (a b : Nat) : shareI a b = (Nat.gcd a b : Nat) := by
  unfold shareI
  rw [if_neg (by omega)]
  simp
theorem shareI_turn (a b : Int) : shareI a b = shareI b a := by
  unfold shareI
  rw [Nat.gcd_comm]
  by_cases h : a < 0 ∨ b < 0
  · rw [if_pos h, if_pos (Or.symm h)]
  · rw [if_neg h, if_neg (fun h' => h (Or.symm h'))]

end Go.Proofs.Ytddomanabcmnpaa

namespace Go.Proofs.Ytddomanabcmnpaa

def evenAll : Bool := (List.range 17).all fun n => (List.range 17).all fun s => n == 0 || reachN n 0 s * Nat.gcd s n == n
theorem evenAll_is : evenAll = true := by decide +kernel
theorem reach_even {n s : Nat} (h1 : 1 ≤ n) (h2 : n ≤ 16) (hs : s ≤ 16) : reachN n 0 s * Nat.gcd s n = n := by
  have := List.all_eq_true.1 (List.all_eq_true.1 evenAll_is n (List.mem_range.2 (by omega))) s (List.mem_range.2 (by omega))
  simp only [Bool.or_eq_true, beq_iff_eq] at this
  omega
def riseAll : Bool := [1, 2, 4, 8, 16].all fun n => (List.range 17).all fun s => s % 2 == 0 || reachN n 1 s == n
theorem riseAll_is : riseAll = true := by decide +kernel
theorem reach_rising {n s : Nat} (hn : n = 1 ∨ n = 2 ∨ n = 4 ∨ n = 8 ∨ n = 16) (hs : s ≤ 16) (ho : s % 2 ≠ 0) : reachN n 1 s = n := by
  have := List.all_eq_true.1 (List.all_eq_true.1 riseAll_is n (by simpa using hn)) s (List.mem_range.2 (by omega))
  simp only [Bool.or_eq_true, beq_iff_eq] at this
  omega
def squareAll : Bool := [3, 5, 7, 11, 13].all fun n => (List.range 17).all fun s => s % n == 0 || 2 * reachN n 2 s == n + 1
theorem squareAll_is : squareAll = true := by decide +kernel
theorem reach_square {n s : Nat} (hn : n = 3 ∨ n = 5 ∨ n = 7 ∨ n = 11 ∨ n = 13) (hs : s ≤ 16) (ho : s % n ≠ 0) : 2 * reachN n 2 s = n + 1 := by
  have := List.all_eq_true.1 (List.all_eq_true.1 squareAll_is n (by simpa using hn)) s (List.mem_range.2 (by omega))
  simp only [Bool.or_eq_true, beq_iff_eq] at this
  omega
def backAll : Bool := (List.range 17).all fun n => (List.range 17).all fun s => n == 0 || n < s || reachN n 0 s == reachN n 0 (n - s)
theorem backAll_is : backAll = true := by decide +kernel
theorem reach_back {n s : Nat} (h1 : 1 ≤ n) (h2 : n ≤ 16) (hs : s ≤ n) : reachN n 0 s = reachN n 0 (n - s) := by
  have := List.all_eq_true.1 (List.all_eq_true.1 backAll_is n (List.mem_range.2 (by omega))) s (List.mem_range.2 (by omega))
  simp only [Bool.or_eq_true, beq_iff_eq, decide_eq_true_eq] at this
  omega
/-- An even way comes to all slots just if the step and the size share nothing. -/
theorem whole_share {n s : Nat} (h1 : 1 ≤ n) (h2 : n ≤ 16) (hs : s ≤ 16) : reachN n 0 s = n ↔ Nat.gcd s n = 1 := by
  have e := reach_even h1 h2 hs
  constructor
  · intro h
    rw [h] at e
    exact Nat.eq_of_mul_eq_mul_left h1 (by rw [e, Nat.mul_one])
  · intro h
    rw [h, Nat.mul_one] at e
    exact e
def meetB (n d g : Nat) : Bool := (List.range n).any fun i => (d * i) % n == g
def meetAll : Bool := (List.range 17).all fun n => (List.range n).all fun d => (List.range n).all fun g => meetB n d g == (g % Nat.gcd d n == 0)
theorem meetAll_is : meetAll = true := by decide +kernel
theorem meet_iff {n d g : Nat} (h2 : n ≤ 16) (hd : d < n) (hg : g < n) : (∃ i, i < n ∧ (d * i) % n = g) ↔ g % Nat.gcd d n = 0 := by
  have := List.all_eq_true.1 (List.all_eq_true.1 (List.all_eq_true.1 meetAll_is n (List.mem_range.2 (by omega))) d (List.mem_range.2 hd)) g (List.mem_range.2 hg)
  simp only [beq_iff_eq] at this
  have e : meetB n d g = true ↔ ∃ i, i < n ∧ (d * i) % n = g := by
    simp only [meetB, List.any_eq_true, List.mem_range, beq_iff_eq]
  rw [← e, this]
  simp

end Go.Proofs.Ytddomanabcmnpaa

namespace Go.Proofs.Ytddomanabcmnpaa

/-- How far apart. -/
def apartN (a b : Nat) : Nat := if b ≤ a then a - b else b - a
def modN (N a b : Nat) : Nat := (a + (N - b % N)) % N
def gcdAll : Bool := (List.range 17).all fun N => (List.range 17).all fun o => (List.range 17).all fun t => N == 0 || Nat.gcd (modN N o t) N == Nat.gcd (apartN o t) N
theorem gcdAll_is : gcdAll = true := by decide +kernel
def gapAll : Bool := (List.range 17).all fun N => (List.range 17).all fun g => N == 0 || g == 0 || !(N % g == 0) || (List.range N).all fun s => (List.range N).all fun f => (modN N s f % g == 0) == (apartN s f % g == 0)
theorem gapAll_is : gapAll = true := by decide +kernel
theorem gcd_apart {N o t : Nat} (n1 : 1 ≤ N) (n2 : N ≤ 16) (ho : o ≤ 16) (ht : t ≤ 16) : Nat.gcd (modN N o t) N = Nat.gcd (apartN o t) N := by
  have := List.all_eq_true.1 (List.all_eq_true.1 (List.all_eq_true.1 gcdAll_is N (List.mem_range.2 (by omega))) o (List.mem_range.2 (by omega))) t (List.mem_range.2 (by omega))
  simp only [Bool.or_eq_true, beq_iff_eq] at this
  omega
theorem gap_apart {N g s f : Nat} (n1 : 1 ≤ N) (n2 : N ≤ 16) (g1 : 1 ≤ g) (g2 : N % g = 0) (g3 : g ≤ N) (hs : s < N) (hf : f < N) : modN N s f % g = 0 ↔ apartN s f % g = 0 := by
  have := List.all_eq_true.1 (List.all_eq_true.1 gapAll_is N (List.mem_range.2 (by omega))) g (List.mem_range.2 (by omega))
  have hN : (N == 0) = false := beq_eq_false_iff_ne.2 (by omega)
  have hg : (g == 0) = false := beq_eq_false_iff_ne.2 (by omega)
  rw [hN, hg, g2] at this
  simp only [Bool.false_or, beq_self_eq_true, Bool.not_true] at this
  have := List.all_eq_true.1 (List.all_eq_true.1 this s (List.mem_range.2 hs)) f (List.mem_range.2 hf)
  rw [beq_iff_eq] at this
  have h2 := Bool.eq_iff_iff.1 this
  simpa using h2

theorem emod_of {N : Int} {a b c e k : Int} (h : a - b = c - e + N * k) : a % N = b % N ↔ c % N = e % N := by
  rw [Int.emod_eq_emod_iff_emod_sub_eq_zero, Int.emod_eq_emod_iff_emod_sub_eq_zero, h, Int.add_mul_emod_self_left]

theorem modN_int (N a b : Nat) (n1 : 1 ≤ N) : ∃ u : Int, ((modN N a b : Nat) : Int) = (a : Int) - (b : Int) + (N : Int) * u := by
  have e1 := Nat.div_add_mod (a + (N - b % N)) N
  have e2 := Nat.div_add_mod b N
  have h1 : modN N a b = (a + (N - b % N)) % N := rfl
  have hb : b % N < N := Nat.mod_lt _ n1
  rw [← h1] at e1
  generalize modN N a b = m at e1
  generalize (a + (N - b % N)) / N = p at e1
  generalize b / N = q at e2
  generalize b % N = r at e1 e2 hb
  refine ⟨1 + (q : Int) - (p : Int), ?_⟩
  have c1 : ((N * p + m : Nat) : Int) = ((a + (N - r) : Nat) : Int) := congrArg _ e1
  have c2 : ((N * q + r : Nat) : Int) = (b : Int) := congrArg _ e2
  rw [Int.mul_sub, Int.mul_add, Int.mul_one, ← Int.natCast_mul, ← Int.natCast_mul]
  omega

theorem at_meet {N F O S T i : Nat} (n1 : 1 ≤ N) : atW N 0 O F i = atW N 0 T S i ↔ (modN N O T * i) % N = modN N S F := by
  obtain ⟨u, hu⟩ := modN_int N O T n1
  obtain ⟨v, hv⟩ := modN_int N S F n1
  have hlt : modN N S F < N := Nat.mod_lt _ n1
  have key := emod_of (N := (N : Int)) (a := (F : Int) + (O : Int) * i) (b := (S : Int) + (T : Int) * i) (c := ((modN N O T : Nat) : Int) * i) (e := ((modN N S F : Nat) : Int)) (k := v - u * i) (by
    rw [hu, hv]
    grind)
  have e1 : ((atW N 0 O F i : Nat) : Int) = ((F : Int) + (O : Int) * i) % N := by
    show (((F + O * i) % N : Nat) : Int) = _
    rw [Int.natCast_emod, Int.natCast_add, Int.natCast_mul]
  have e2 : ((atW N 0 T S i : Nat) : Int) = ((S : Int) + (T : Int) * i) % N := by
    show (((S + T * i) % N : Nat) : Int) = _
    rw [Int.natCast_emod, Int.natCast_add, Int.natCast_mul]
  have e3 : (((modN N O T * i) % N : Nat) : Int) = (((modN N O T : Nat) : Int) * i) % N := by rw [Int.natCast_emod, Int.natCast_mul]
  have e4 : ((modN N S F : Nat) : Int) % (N : Int) = ((modN N S F : Nat) : Int) := Int.emod_eq_of_lt (by omega) (by omega)
  constructor
  · intro h
    have : ((F : Int) + (O : Int) * i) % N = ((S : Int) + (T : Int) * i) % N := by rw [← e1, ← e2, h]
    have := key.1 this
    rw [← e3, e4] at this
    omega
  · intro h
    have : (((modN N O T : Nat) : Int) * i) % N = ((modN N S F : Nat) : Int) % N := by rw [← e3, e4, h]
    have := key.2 this
    rw [← e1, ← e2] at this
    omega

theorem meet_gap {N F O S T : Nat} (n1 : 1 ≤ N) (n2 : N ≤ 16) (hO : O ≤ 16) (hT : T ≤ 16) (hF : F < N) (hS : S < N) : meetN N F O S T < N ↔ apartN S F % Nat.gcd (apartN O T) N = 0 := by
  have hg : 1 ≤ Nat.gcd (apartN O T) N := Nat.gcd_pos_of_pos_right _ n1
  rw [← gap_apart n1 n2 hg (Nat.mod_eq_zero_of_dvd (Nat.gcd_dvd_right _ _)) (Nat.gcd_le_right _ n1) hS hF, ← gcd_apart n1 n2 hO hT, ← meet_iff (d := modN N O T) (g := modN N S F) n2 (show modN N O T < N from Nat.mod_lt _ n1) (show modN N S F < N from Nat.mod_lt _ n1)]
  constructor
  · intro h
    exact ⟨_, h, (at_meet n1).1 (meetN_is h)⟩
  · rintro ⟨i, hi, he⟩
    by_cases h : meetN N F O S T < N
    · exact h
    · exfalso
      have hle := meetN_le N F O S T
      have hm : meetN N F O S T = N := by omega
      have hno : ∀ j, j < N → atW N 0 O F j ≠ atW N 0 T S j := fun j hj e => by
        have h0 : (List.range N).findIdx (fun i => atW N 0 O F i == atW N 0 T S i) = (List.range N).length := by simpa [meetN] using hm
        have := (List.findIdx_eq_length.1 h0) j (List.mem_range.2 hj)
        simp [e] at this
      exact hno i hi ((at_meet n1).2 he)

end Go.Proofs.Ytddomanabcmnpaa

namespace Go.Proofs.Ytddomanabcmnpaa
open Go.RowKit

variable {F : Fence} {n : Nat} {P : Program}

/-- What such an iterator promises: gs is the block that it writes; what lies below B it finds behind each round as it left it. -/
def SeqWrites (F : Fence) (n : Nat) (P : Program) (gf : Nat) (lb : Array Value) (gs B N : Nat) (S : List Int → World → Prop) (w : World) : Prop :=
  ∀ (l : Nat) (J : List Int → World → Prop) (W : World), Below B w W →
    (∀ s A o v, J s A → J s (A.setCell ⟨gs, o, none⟩ v)) → (∀ s A A', J s A → Below A.heap.size A A' → J s A') →
    (∀ pre x W1, J pre W1 → pre.length < N → YieldAt F (n - 1) P l #[.int .i64 x] W1 fun e W' => e = .returned (.bool true) ∧ J (pre ++ [x]) W' ∧ Below B W1 W') →
    J [] W →
    CallsIn F n P gf (#[.func (.yield l) #[] #[]] ++ lb) W fun e W' => (∃ v, e = .returned v) ∧ ∃ xs, xs.length ≤ N ∧ S xs W' ∧ J xs W'

theorem below_putObj {B : Nat} {A : World} {l : Nat} (hl : B ≤ l) (o : Obj) : Below B A (A.putObj l o) :=
  ⟨rfl, rfl, rfl, by simp, fun k hk => World.putObj_heap_other (by omega)⟩
theorem heap_of_below {A A' : World} (h : Below A.heap.size A A') {k : Nat} {o : Obj} (hk : A.heap[k]? = some o) : A'.heap[k]? = some o :=
  (h.block k (Array.getElem?_eq_some_iff.1 hk).1).trans hk
theorem heap_of_set {A : World} {p : Addr} {v : Value} {k : Nat} {o : Obj} (hk : A.heap[k]? = some o) (hne : k ≠ p.block) : (A.setCell p v).heap[k]? = some o :=
  (Below.heap_setCell A p v k hne).trans hk

set_option maxHeartbeats 1000000 in
theorem rangeW {g : Operand} {ps : Array Tmp} {assign body : Code} {Q : Exit → Act → World → Prop} {a : Act} {w : World}
    (hro : F.round = none) (h1 : 1 ≤ n) {gf : Nat} {lb : Array Value} (hg : a.eval g = .func (.func gf) #[] lb) (hFg : F.fn gf) (eg : ∀ args w, (callFunc gf args).run P w = .ok (.enter gf args) w)
    {gs B N : Nat} {S : List Int → World → Prop} {w0 : World} (hseq : SeqWrites F (n - 1) P gf lb gs B N S w0) (hb0 : Below B w0 w) (hB : B ≤ w.heap.size) (hgs : gs < B) (hps : ps.size = 1)
    (I : List Int → World → Prop) (hI1 : ∀ s A o v, I s A → I s (A.setCell ⟨gs, o, none⟩ v)) (hI2 : ∀ s A A', I s A → Below A.heap.size A A' → I s A')
    (hI3 : ∀ s A l o o', I s A → w.heap.size ≤ l → A.heap[l]? = some o → o.isCells = false → I s (A.putObj l o'))
    (hS : ∀ s A A', S s A → A'.heap[gs]? = A.heap[gs]? → A.heap.size ≤ A'.heap.size → S s A')
    (h0 : I [] w) (a₁ : Int → Act)
    (hassign : ∀ (l : Nat) (x : Int) (W : World) (K : Act → World → Prop), K (a₁ x) W →
      assign.wpIn (F.inRound l) (n - 1 - 1) P (Exit.then K (fun _ _ _ => False)) { tmps := (ps.zip #[Value.int .i64 x]).foldl (fun t (p, v) => t.setIfInBounds p v) a.tmps, defers := [] } W)
    (hbody : ∀ (l : Nat) (pre : List Int) (x : Int) (W : World), I pre W → pre.length < N → body.wpIn (F.inRound l) (n - 1 - 1) P (Exit.then (fun _ W' => KeepsOthers W W' ∧ Below B W W' ∧ I (pre ++ [x]) W') (fun _ _ _ => False)) (a₁ x) W)
    (hdone : ∀ (D : Nat) (xs : List Int) (W : World), w.heap.size ≤ D → xs.length ≤ N → S xs W → I xs W → W.heap[D]? = some (.deferred (some [])) → Q .normal { a with defers := { target := .collected D, args := #[] } :: a.defers } W) :
    (Code.rangeFunc g ps assign body).wpIn F n P Q a w := by
  refine wpIn_rangeFunc ?_
  intro fn hfn
  rw [hro]
  -- the record and the block of its rounds' deferred calls
  let rec0 : LoopState → Loop := fun st => { state := st, pending := none, fn, tmps := a.tmps, params := ps, assign, body, defers := w.heap.size }
  obtain ⟨rc, hrc⟩ : ∃ rc, rc = rec0 := ⟨_, rfl⟩
  let W1 : World := (w.alloc (.deferred (some []))).alloc (.loop (rc .ready))
  have hD : w.heap.size ≠ gs := by omega
  have hL : w.heap.size + 1 ≠ gs := by omega
  have hbw : Below w.heap.size w W1 := ((Below.refl _ w).alloc (Nat.le_refl _) _).alloc (by simp) _
  have hl1 : W1.heap[w.heap.size + 1]? = some (.loop (rc .ready)) := by
    have := World.alloc_heap_new (w.alloc (.deferred (some []))) (.loop (rc .ready)); rwa [World.size_alloc] at this
  have hd1 : W1.heap[w.heap.size]? = some (.deferred (some [])) := (Below.heap_alloc _ _ _ (by simp)).trans (World.alloc_heap_new w _)
  refine ⟨w.heap.size + 1, [{ target := .collected w.heap.size, args := #[] }], W1, { target := .fn (.func gf) lb, args := #[.func (.yield (w.heap.size + 1)) #[] #[]] }, W1, gf,
    #[.func (.yield (w.heap.size + 1)) #[] #[]] ++ lb, W1, ?_, ?_, ?_, ?_, fun _ => h1, ?_⟩
  · show _ = Result.ok _ ((w.alloc (.deferred (some []))).alloc (.loop (rc .ready)))
    rw [hrc]; exact run_enterLoop_outer _ _ _ _ _
  · simp only [resolve, hg]
    simp [go_sem]
  · intro f' hf'; simp [Target.leads] at hf'; subst hf'; exact hFg
  · simp [invoke, go_sem, eg]
  · refine (hseq (w.heap.size + 1) (fun s A => I s A ∧ A.heap[w.heap.size + 1]? = some (.loop (rc .ready)) ∧ A.heap[w.heap.size]? = some (.deferred (some []))) W1
      (hb0.trans (hbw.mono hB)) (fun s A o v h => ⟨hI1 s A o v h.1, heap_of_set h.2.1 hL, heap_of_set h.2.2 hD⟩)
      (fun s A A' h hb => ⟨hI2 s A A' h.1 hb, heap_of_below hb h.2.1, heap_of_below hb h.2.2⟩) ?_ ⟨hI2 _ _ _ h0 hbw, hl1, hd1⟩).mono ?_
    · rintro pre x A ⟨hi, hl, hd⟩ hlen
      have hlt : w.heap.size + 1 < A.heap.size := (Array.getElem?_eq_some_iff.1 hl).1
      have hy := run_yield (P := P) (args := #[Value.int .i64 x]) hl (by rw [hrc]; exact hps.symm)
      rw [hrc] at hy
      refine ⟨fn, _, assign, body, hy, roundIn_of_wpIn hfn (hassign _ x A _ ⟨_, run_beginRound hl (by rw [hrc]), ?_⟩)⟩
      have hl2 : (A.putObj (w.heap.size + 1) (.loop (rc .busy))).heap[w.heap.size + 1]? = some (.loop (rc .busy)) := World.putObj_heap_same hlt
      have hd2 : (A.putObj (w.heap.size + 1) (.loop (rc .busy))).heap[w.heap.size]? = some (.deferred (some [])) := (World.putObj_heap_other (by omega)).trans hd
      have hbz : { rc .ready with state := .busy } = rc .busy := by rw [hrc]
      rw [hbz]
      refine wpIn_mono (hbody _ pre x _ (hI3 _ _ _ _ _ hi (by omega) hl rfl) hlen) ?_
      rintro e a3 A3 hp
      cases e with
      | normal =>
        obtain ⟨hk, hbB, hi3⟩ := hp
        have hl3 := hk.same _ _ hl2 rfl
        have hd3 := hk.same _ _ hd2 rfl
        have hend := run_endRound (P := P) none hl3
        have hrz : { rc .busy with state := if (none : Option Code).isNone then .ready else .done, pending := none } = rc .ready := by rw [hrc]; rfl
        rw [hrz] at hend
        refine ⟨_, _, hend, rfl, ⟨hI3 _ _ _ _ _ hi3 (by omega) hl3 rfl, World.putObj_heap_same (Array.getElem?_eq_some_iff.1 hl3).1, (World.putObj_heap_other (by omega)).trans hd3⟩, ?_⟩
        exact ((below_putObj (by omega) _).trans hbB).trans (below_putObj (by omega) _)
      | ret => exact hp.elim
      | exit id => exact hp.elim
      | goto t => exact hp.elim
      | panic ch => exact hp.elim
      | outgrown => exact hp.elim
    · rintro e A ⟨⟨v, rfl⟩, xs, hlx, hs, hi, hl, hd⟩
      have hend := run_endLoop (P := P) hl (by rw [hrc]; simp [rec0])
      have hp : (rc .ready).pending = none := by rw [hrc]
      rw [hp] at hend
      refine ⟨none, _, hend, ?_⟩
      exact hdone _ xs _ (Nat.le_refl _) hlx (hS _ _ _ hs (World.putObj_heap_other (Ne.symm hL)) (by simp)) (hI3 _ _ _ _ _ hi (by omega) hl rfl) ((World.putObj_heap_other (by omega)).trans hd)

end Go.Proofs.Ytddomanabcmnpaa

namespace Go.Proofs.Ytddomanabcmnpaa
open Go.RowKit

variable {F : Fence} {n : Nat} {P : Program} {α : Type}

/-- What such an iterator promises: Wr is what it does to memory between two rounds. -/
def SeqWritesS (F : Fence) (n : Nat) (P : Program) (gf : Nat) (lb : Array Value) (encs : α → Array Value) (Wr Kp : World → World → Prop) (B N : Nat) (S Sp : List α → Prop) (w : World) : Prop :=
  ∀ (l : Nat) (J Jx : List α → World → Prop) (W : World), Below B w W → (∀ s A A', J s A → Wr A A' → J s A') →
    (∀ pre x W1, J pre W1 → pre.length < N → YieldAt F (n - 1) P l (encs x) W1 fun e W' => (e = .returned (.bool true) ∧ J (pre ++ [x]) W' ∧ Kp W1 W') ∨ (e = .returned (.bool false) ∧ Jx (pre ++ [x]) W')) →
    J [] W →
    CallsIn F n P gf (#[.func (.yield l) #[] #[]] ++ lb) W fun e W' => (∃ v, e = .returned v) ∧ ((∃ xs, S xs ∧ J xs W') ∨ (∃ pre, Sp pre ∧ Jx pre W'))

/-- How a round may be left. -/
def leftS (Kp : World → World → Prop) (I Ix : List α → World → Prop) (xs : List α) (W : World) : Exit → Act → World → Prop
  | .normal, _, W' => KeepsOthers W W' ∧ Kp W W' ∧ I xs W'
  | .ret, _, W' => KeepsOthers W W' ∧ Ix xs W'
  | _, _, _ => False

set_option maxHeartbeats 1000000 in
theorem rangeS {g : Operand} {ps : Array Tmp} {assign body : Code} {Q : Exit → Act → World → Prop} {a : Act} {w : World}
    (hro : F.round = none) (h1 : 1 ≤ n) {gf : Nat} {lb : Array Value} (hg : a.eval g = .func (.func gf) #[] lb) (hFg : F.fn gf) (eg : ∀ args w, (callFunc gf args).run P w = .ok (.enter gf args) w)
    {encs : α → Array Value} {Wr Kp : World → World → Prop} {B N : Nat} {S Sp : List α → Prop} {w0 : World} (hseq : SeqWritesS F (n - 1) P gf lb encs Wr Kp B N S Sp w0)
    (hKt : ∀ {A B C : World}, Kp A B → Kp B C → Kp A C) (hKb : ∀ (W : World) (l : Nat) (o : Obj), w.heap.size ≤ l → Kp W (W.putObj l o)) (hb0 : Below B w0 w) (hB : B ≤ w.heap.size)
    (hps : ∀ x, (encs x).size = ps.size)
    (hWr : ∀ A A' k o, Wr A A' → w.heap.size ≤ k → A.heap[k]? = some o → A'.heap[k]? = some o)
    (I Ix : List α → World → Prop) (hI1 : ∀ s A A', I s A → Wr A A' → I s A')
    (hI3 : ∀ s A l o o', I s A → w.heap.size ≤ l → A.heap[l]? = some o → o.isCells = false → I s (A.putObj l o'))
    (hX3 : ∀ s A l o o', Ix s A → w.heap.size ≤ l → A.heap[l]? = some o → o.isCells = false → Ix s (A.putObj l o'))
    (hI2 : ∀ o o' : Obj, I [] ((w.alloc o).alloc o')) (a₁ : α → Act)
    (hassign : ∀ (l : Nat) (x : α) (W : World) (K : Act → World → Prop), K (a₁ x) W →
      assign.wpIn (F.inRound l) (n - 1 - 1) P (Exit.then K (fun _ _ _ => False)) { tmps := (ps.zip (encs x)).foldl (fun t (p, v) => t.setIfInBounds p v) a.tmps, defers := [] } W)
    (hbody : ∀ (l : Nat) (pre : List α) (x : α) (W : World), I pre W → pre.length < N → body.wpIn (F.inRound l) (n - 1 - 1) P (leftS Kp I Ix (pre ++ [x]) W) (a₁ x) W)
    (hdone : ∀ (D : Nat) (xs : List α) (W : World), w.heap.size ≤ D → S xs → I xs W → W.heap[D]? = some (.deferred (some [])) → Q .normal { a with defers := { target := .collected D, args := #[] } :: a.defers } W)
    (hstop : ∀ (D : Nat) (pre : List α) (W : World), w.heap.size ≤ D → Sp pre → Ix pre W → W.heap[D]? = some (.deferred (some [])) → Code.ret.wpIn F n P Q { a with defers := { target := .collected D, args := #[] } :: a.defers } W) :
    (Code.rangeFunc g ps assign body).wpIn F n P Q a w := by
  refine wpIn_rangeFunc ?_
  intro fn hfn
  rw [hro]
  let rec0 : LoopState → Option Code → Loop := fun st pe => { state := st, pending := pe, fn, tmps := a.tmps, params := ps, assign, body, defers := w.heap.size }
  obtain ⟨rc, hrc⟩ : ∃ rc, rc = rec0 := ⟨_, rfl⟩
  let W1 : World := (w.alloc (.deferred (some []))).alloc (.loop (rc .ready none))
  have hD : w.heap.size ≤ w.heap.size := Nat.le_refl _
  have hbw : Below w.heap.size w W1 := ((Below.refl _ w).alloc (Nat.le_refl _) _).alloc (by simp) _
  have hl1 : W1.heap[w.heap.size + 1]? = some (.loop (rc .ready none)) := by
    have := World.alloc_heap_new (w.alloc (.deferred (some []))) (.loop (rc .ready none)); rwa [World.size_alloc] at this
  have hd1 : W1.heap[w.heap.size]? = some (.deferred (some [])) := (Below.heap_alloc _ _ _ (by simp)).trans (World.alloc_heap_new w _)
  refine ⟨w.heap.size + 1, [{ target := .collected w.heap.size, args := #[] }], W1, { target := .fn (.func gf) lb, args := #[.func (.yield (w.heap.size + 1)) #[] #[]] }, W1, gf,
    #[.func (.yield (w.heap.size + 1)) #[] #[]] ++ lb, W1, ?_, ?_, ?_, ?_, fun _ => h1, ?_⟩
  · show _ = Result.ok _ ((w.alloc (.deferred (some []))).alloc (.loop (rc .ready none)))
    rw [hrc]; exact run_enterLoop_outer _ _ _ _ _
  · simp only [resolve, hg]
    simp [go_sem]
  · intro f' hf'; simp [Target.leads] at hf'; subst hf'; exact hFg
  · simp [invoke, go_sem, eg]
  · refine (hseq (w.heap.size + 1) (fun s A => I s A ∧ A.heap[w.heap.size + 1]? = some (.loop (rc .ready none)) ∧ A.heap[w.heap.size]? = some (.deferred (some [])))
      (fun s A => Ix s A ∧ A.heap[w.heap.size + 1]? = some (.loop (rc .done (some .ret))) ∧ A.heap[w.heap.size]? = some (.deferred (some []))) W1
      (hb0.trans (hbw.mono hB)) (fun s A A' h hw => ⟨hI1 s A A' h.1 hw, hWr A A' _ _ hw (by omega) h.2.1, hWr A A' _ _ hw hD h.2.2⟩) ?_ ⟨hI2 _ _, hl1, hd1⟩).mono ?_
    · rintro pre x A ⟨hi, hl, hd⟩ hlen
      have hlt : w.heap.size + 1 < A.heap.size := (Array.getElem?_eq_some_iff.1 hl).1
      have hy := run_yield (P := P) (args := encs x) hl (by rw [hrc]; exact hps x)
      rw [hrc] at hy
      refine ⟨fn, _, assign, body, hy, roundIn_of_wpIn hfn (hassign _ x A _ ⟨_, run_beginRound hl (by rw [hrc]), ?_⟩)⟩
      have hl2 : (A.putObj (w.heap.size + 1) (.loop (rc .busy none))).heap[w.heap.size + 1]? = some (.loop (rc .busy none)) := World.putObj_heap_same hlt
      have hd2 : (A.putObj (w.heap.size + 1) (.loop (rc .busy none))).heap[w.heap.size]? = some (.deferred (some [])) := (World.putObj_heap_other (by omega)).trans hd
      have hbz : { rc .ready none with state := .busy } = rc .busy none := by rw [hrc]
      rw [hbz]
      refine wpIn_mono (hbody _ pre x _ (hI3 _ _ _ _ _ hi (by omega) hl rfl) hlen) ?_
      rintro e a3 A3 hp
      cases e with
      | normal =>
        obtain ⟨hk, hbB, hi3⟩ := hp
        have hl3 := hk.same _ _ hl2 rfl
        have hd3 := hk.same _ _ hd2 rfl
        have hend := run_endRound (P := P) none hl3
        have hrz : { rc .busy none with state := if (none : Option Code).isNone then .ready else .done, pending := none } = rc .ready none := by rw [hrc]; rfl
        rw [hrz] at hend
        exact ⟨_, _, hend, .inl ⟨rfl, ⟨hI3 _ _ _ _ _ hi3 (by omega) hl3 rfl, World.putObj_heap_same (Array.getElem?_eq_some_iff.1 hl3).1, (World.putObj_heap_other (by omega)).trans hd3⟩,
          hKt (hKt (hKb _ _ _ (by omega)) hbB) (hKb _ _ _ (by omega))⟩⟩
      | ret =>
        obtain ⟨hk, hi3⟩ := hp
        have hl3 := hk.same _ _ hl2 rfl
        have hd3 := hk.same _ _ hd2 rfl
        have hend := run_endRound (P := P) (some .ret) hl3
        have hrz : { rc .busy none with state := if (some Code.ret : Option Code).isNone then .ready else .done, pending := some Code.ret } = rc .done (some .ret) := by rw [hrc]; rfl
        rw [hrz] at hend
        exact ⟨_, _, hend, .inr ⟨rfl, hX3 _ _ _ _ _ hi3 (by omega) hl3 rfl, World.putObj_heap_same (Array.getElem?_eq_some_iff.1 hl3).1, (World.putObj_heap_other (by omega)).trans hd3⟩⟩
      | exit id => exact hp.elim
      | goto t => exact hp.elim
      | panic ch => exact hp.elim
      | outgrown => exact hp.elim
    · rintro e A ⟨⟨v, rfl⟩, (⟨xs, hs, hi, hl, hd⟩ | ⟨pre, hs, hi, hl, hd⟩)⟩
      · have hend := run_endLoop (P := P) hl (by rw [hrc]; simp [rec0])
        have hp : (rc .ready none).pending = none := by rw [hrc]
        rw [hp] at hend
        exact ⟨none, _, hend, hdone _ xs _ (Nat.le_refl _) hs (hI3 _ _ _ _ _ hi (by omega) hl rfl) ((World.putObj_heap_other (by omega)).trans hd)⟩
      · have hend := run_endLoop (P := P) hl (by rw [hrc]; simp [rec0])
        have hp : (rc .done (some .ret)).pending = some .ret := by rw [hrc]
        rw [hp] at hend
        exact ⟨some .ret, _, hend, hstop _ pre _ (Nat.le_refl _) hs (hX3 _ _ _ _ _ hi (by omega) hl rfl) ((World.putObj_heap_other (by omega)).trans hd)⟩

end Go.Proofs.Ytddomanabcmnpaa

namespace Go.Proofs.Ytddomanabcmnpaa

/-- Back along a ring. -/
theorem wsub {a b n : Int} (a0 : 0 ≤ a) (a1 : a < n) (b0 : 0 ≤ b) (b1 : b < n) : (a - b) % n = if b ≤ a then a - b else a - b + n := by
  split
  · exact Int.emod_eq_of_lt (by omega) (by omega)
  · rw [← Int.add_emod_right]
    exact Int.emod_eq_of_lt (by omega) (by omega)
/-- On along a ring. -/
theorem wadd {a b n : Int} (a0 : 0 ≤ a) (a1 : a < n) (b0 : 0 ≤ b) (b1 : b < n) : (a + b) % n = if a + b < n then a + b else a + b - n := by
  split
  · exact Int.emod_eq_of_lt (by omega) (by omega)
  · rw [← Int.sub_emod_right]
    exact Int.emod_eq_of_lt (by omega) (by omega)
theorem nadd {a b n : Nat} (a1 : a < n) (b1 : b ≤ n) : (a + b) % n = if a + b < n then a + b else a + b - n := by
  split
  · exact Nat.mod_eq_of_lt (by omega)
  · rw [Nat.mod_eq_sub_mod (by omega)]
    exact Nat.mod_eq_of_lt (by omega)

theorem Good.inj {zs : List Int} {n i j : Nat} (h : Good zs n) (hi : i < n) (hj : j < n) (e : nth zs i = nth zs j) (h0 : 0 ≤ nth zs i) : i = j := by
  rcases Nat.lt_trichotomy i j with h1 | h1 | h1
  · exact absurd e ((h j hj).2 (by omega) i h1)
  · exact h1
  · exact absurd e.symm ((h i hi).2 h0 j h1)

def turnL (zs : List Int) : List Int := (List.range zs.length).map fun i => nth zs ((i + zs.length - 1) % zs.length)
/-- A table turned by a slot, whose Plus is one greater. -/
def turn (T : Tab) : Tab := ⟨T.t, T.p + 1, turnL T.zs⟩
theorem turnL_len (zs : List Int) : (turnL zs).length = zs.length := by simp [turnL]
theorem turn_len (T : Tab) : (turn T).zs.length = T.zs.length := turnL_len _
theorem turnL_nth {zs : List Int} {i : Nat} (hi : i < zs.length) : nth (turnL zs) i = nth zs ((i + zs.length - 1) % zs.length) := by
  simp [nth, turnL, hi]
theorem turn_back {i n : Nat} (hi : i < n) : ((i + 1) % n + n - 1) % n = i := by
  have h1 := nadd (b := 1) hi (by omega)
  rw [h1]
  split
  · rw [show i + 1 + n - 1 = i + n by omega, Nat.add_mod_right, Nat.mod_eq_of_lt hi]
  · rw [show i + 1 - n + n - 1 = i by omega, Nat.mod_eq_of_lt hi]
theorem turn_on {i n : Nat} (hi : i < n) : ((i + n - 1) % n + 1) % n = i := by
  by_cases h : i = 0
  · subst h
    rw [show 0 + n - 1 = n - 1 by omega, Nat.mod_eq_of_lt (show n - 1 < n by omega), show n - 1 + 1 = n by omega, Nat.mod_self]
  · rw [show i + n - 1 = (i - 1) + n by omega, Nat.add_mod_right, Nat.mod_eq_of_lt (show i - 1 < n by omega), show i - 1 + 1 = i by omega, Nat.mod_eq_of_lt hi]
theorem turnL_succ {zs : List Int} {i : Nat} (hi : i < zs.length) : nth (turnL zs) ((i + 1) % zs.length) = nth zs i := by
  rw [turnL_nth (Nat.mod_lt _ (by omega)), turn_back hi]

theorem turn_valid {T : Tab} (h : validB T = true) (hp : T.p < 15) : validB (turn T) = true := by
  obtain ⟨⟨l1, l2⟩, ⟨t1, t2⟩, ⟨p1, p2⟩, hg⟩ := valid_facts h
  rw [validB_iff]
  refine ⟨?_, fun i hi => ?_⟩
  · show headB _ T.t (T.p + 1) = true
    rw [turn_len]
    simp only [headB, inB, Bool.and_eq_true, decide_eq_true_eq]
    omega
  · rw [turn_len] at hi
    have e : nth (turn T).zs i = _ := turnL_nth hi
    have m1 : (i + T.zs.length - 1) % T.zs.length < T.zs.length := Nat.mod_lt _ (by omega)
    rw [e]
    refine ⟨(hg _ m1).1, fun h0 j hj e2 => ?_⟩
    have e3 : nth (turn T).zs j = _ := turnL_nth (show j < T.zs.length by omega)
    rw [e3] at e2
    have := hg.inj (Nat.mod_lt _ (by omega)) m1 e2 (by rw [e2]; exact h0)
    have h1 := turn_on hi
    have h2 := turn_on (show j < T.zs.length by omega)
    rw [this] at h2
    omega

theorem turn_home (T : Tab) (key : Int) : homeI (turn T) key = (homeI T key + 1) % T.zs.length := by
  unfold homeI
  rw [turn_len, Int.emod_add_emod]
  show (T.t * key + (T.p + 1)) % _ = _
  rw [← Int.add_assoc]

theorem turn_homeOf {T : Tab} {key : Int} (h : validB T = true) (hp : T.p < 15) (hk : inB key 0 99 = true) : homeOf (turn T) key = (homeOf T key + 1) % T.zs.length := by
  rw [← homeOf_yes h hk, ← homeOf_yes (turn_valid h hp) hk, turn_home]

theorem ring_turn (a b n : Int) : ((a + 1) % n - (b + 1) % n) % n = (a - b) % n := by
  rw [← Int.sub_emod, show a + 1 - (b + 1) = a - b by omega]

theorem turn_away {T : Tab} (h : validB T = true) (hp : T.p < 15) {i : Nat} (hi : i < T.zs.length) : awayOf (turn T) (((i + 1) % T.zs.length : Nat) : Int) = awayOf T i := by
  have hn := turn_len T
  have m : (i + 1) % T.zs.length < T.zs.length := Nat.mod_lt _ (by omega)
  have e : nth (turn T).zs ((i + 1) % T.zs.length) = nth T.zs i := turnL_succ hi
  by_cases h0 : 0 ≤ nth T.zs i
  · rw [← awayOf_yes h hi rfl h0, ← awayOf_yes (turn_valid h hp) (by omega) e h0, turn_home, hn]
    have := ring_turn i (homeI T (nth T.zs i)) T.zs.length
    rw [← this]
    congr 2
  · rw [← awayOf_no (T := T) (slot := (i : Int)) (.inr (.inr (by rw [Int.toNat_natCast]; omega))), ← awayOf_no (T := turn T) (slot := (((i + 1) % T.zs.length : Nat) : Int)) (.inr (.inr (by rw [Int.toNat_natCast, e]; omega)))]

/-- What is known of a key's home. -/
theorem homeOf_cases (T : Tab) (key : Int) : (homeOf T key = -1 ∧ (validB T = false ∨ inB key 0 99 = false)) ∨ (homeOf T key = homeI T key ∧ validB T = true ∧ (0 ≤ key ∧ key ≤ 99) ∧ 0 ≤ homeI T key ∧ homeI T key < T.zs.length) := by
  cases hv : validB T
  · exact .inl ⟨(homeOf_no (.inl hv)).symm, .inl rfl⟩
  · cases hk : inB key 0 99
    · exact .inl ⟨(homeOf_no (.inr hk)).symm, .inr rfl⟩
    · exact .inr ⟨(homeOf_yes hv hk).symm, rfl, inB_iff.1 hk, homeI_bounds hv key⟩

theorem home_rest (T : Tab) (key : Int) : (T.t * key + T.p - homeI T key) % T.zs.length = 0 := by
  unfold homeI
  rw [← Int.emod_eq_emod_iff_emod_sub_eq_zero]
  simp

theorem home_apart (T : Tab) (key : Int) : (T.zs.length : Int) ∣ (homeI T (key + 1) - homeI T key - T.t) := by
  unfold homeI
  apply Int.dvd_of_emod_eq_zero
  rw [Int.sub_emod, ← Int.sub_emod (T.t * (key + 1) + T.p) (T.t * key + T.p), ← Int.sub_emod]
  have : T.t * (key + 1) + T.p - (T.t * key + T.p) - T.t = 0 := by rw [Int.mul_add]; omega
  rw [this]; simp
theorem home_apart_t (T : Tab) (key : Int) : (homeI T (key + 1) - homeI T key - T.t).tmod T.zs.length = 0 := Int.tmod_eq_zero_of_dvd (home_apart T key)
theorem home_far (T : Tab) (key : Int) : homeI T (key + T.zs.length) = homeI T key := by
  unfold homeI
  rw [Int.mul_add, show T.t * key + T.t * T.zs.length + T.p = T.t * key + T.p + T.t * T.zs.length by omega, Int.add_mul_emod_self_right]

theorem away_back {a b n : Int} (a0 : 0 ≤ a) (a1 : a < n) : (b + (a - b) % n) % n = a := by
  rw [Int.add_emod_emod, show b + (a - b) = a by omega, Int.emod_eq_of_lt a0 a1]

/-- What is known of how far a slot lies from home. -/
theorem awayOf_cases (T : Tab) (slot : Int) : awayOf T slot = -1 ∨ ∃ (k : Nat) (x : Int), slot = k ∧ k < T.zs.length ∧ nth T.zs k = x ∧ 0 ≤ x ∧ x ≤ 99 ∧ validB T = true ∧ awayOf T slot = (k - homeI T x) % T.zs.length ∧ 0 ≤ awayOf T slot ∧ awayOf T slot < T.zs.length := by
  cases hv : validB T
  · exact .inl (awayOf_no (.inl hv)).symm
  · cases hs : inB slot 0 (T.zs.length - 1)
    · exact .inl (awayOf_no (.inr (.inl hs))).symm
    · obtain ⟨s0, s1⟩ := inB_iff.1 hs
      obtain ⟨k, rfl⟩ : ∃ k : Nat, slot = k := ⟨slot.toNat, by omega⟩
      by_cases h0 : 0 ≤ nth T.zs k
      · have hk : k < T.zs.length := by omega
        have hb := valid_slot hv hk
        have e := awayOf_yes hv hk rfl h0
        refine .inr ⟨k, _, rfl, hk, rfl, h0, hb.2, rfl, e.symm, ?_, ?_⟩
        · rw [← e]; exact Int.emod_nonneg _ (by omega)
        · rw [← e]; exact Int.emod_lt_of_pos _ (by omega)
      · exact .inl (awayOf_no (.inr (.inr (by simpa using h0)))).symm

end Go.Proofs.Ytddomanabcmnpaa

namespace Go.Proofs.Ytddomanabcmnpaa

theorem good_nodup {zs : List Int} (h : Good zs zs.length) : (zs.filter fun x => inB x 0 99).Nodup := by
  rw [List.nodup_iff_pairwise_ne, List.pairwise_filter]
  rw [List.pairwise_iff_getElem]
  intro i j hi hj hij h1 h2 e
  have hi' : nth zs i = zs[i] := by simp [nth, List.getElem?_eq_getElem hi]
  have hj' : nth zs j = zs[j] := by simp [nth, List.getElem?_eq_getElem hj]
  have h3 := (inB_iff.1 h1).1
  have := h.inj hi hj (by rw [hi', hj', e]) (by rw [hi']; exact h3)
  omega

theorem sortU_pairwise (zs : List Int) : (sortU zs).Pairwise (· < ·) := by
  unfold sortU sortTo
  rw [List.pairwise_map]
  refine List.Pairwise.filter _ ?_
  refine List.pairwise_lt_range.imp ?_
  intro a b h
  omega

theorem sortU_mem {zs : List Int} {x : Int} : x ∈ sortU zs ↔ (0 ≤ x ∧ x ≤ 99) ∧ x ∈ zs := by
  unfold sortU
  rw [mem_sortTo]
  constructor
  · rintro ⟨k, hk, rfl, h⟩
    rcases fnd_cases zs (k : Int) with ⟨h1, _⟩ | ⟨j, hj, _, h2, _⟩
    · omega
    · refine ⟨by omega, ?_⟩
      rw [← h2, nth, List.getElem?_eq_getElem hj]
      exact List.getElem_mem hj
  · rintro ⟨⟨h0, h1⟩, h⟩
    obtain ⟨k, rfl⟩ : ∃ k : Nat, x = k := ⟨x.toNat, by omega⟩
    refine ⟨k, by omega, rfl, ?_⟩
    rcases fnd_cases zs (k : Int) with ⟨_, h2⟩ | ⟨j, hj, e, _⟩
    · obtain ⟨i, hi, e⟩ := List.getElem_of_mem h
      exact absurd (by rw [nth, List.getElem?_eq_getElem hi]; simpa using e) (h2 i hi)
    · omega

theorem sort_keys {zs : List Int} (h : Good zs zs.length) : ((zs.filter fun x => inB x 0 99).mergeSort fun x y => decide (x ≤ y)) = sortU zs := by
  have hp := List.mergeSort_perm (zs.filter fun x => inB x 0 99) (fun x y => decide (x ≤ y))
  have hs := List.pairwise_mergeSort (le := fun x y : Int => decide (x ≤ y)) (fun a b c h1 h2 => by simp at *; omega) (fun a b => by simp; omega) (zs.filter fun x => inB x 0 99)
  have hu := sortU_pairwise zs
  have hperm : (zs.filter fun x => inB x 0 99).Perm (sortU zs) := by
    rw [List.perm_ext_iff_of_nodup (good_nodup h) (hu.imp fun h => by omega)]
    intro x
    rw [List.mem_filter, sortU_mem, inB_iff]
    exact And.comm
  refine List.Perm.eq_of_pairwise (le := fun x y : Int => decide (x ≤ y) = true) (fun a b _ _ h1 h2 => ?_) hs (hu.imp fun h => ?_) (hp.trans hperm)
  · simp at h1 h2; omega
  · simp; omega

end Go.Proofs.Ytddomanabcmnpaa

/-
  Valid tables of one text are the same. No walk.
-/
import Derived.Test.YtlhbddjaioodkaaDoorFmt
import Derived.Test.YtlhbddjaioodkaaDoorSame
namespace Go.Proofs.YtlhbddjaioodkaaDoor
open Go.RowKit

theorem ofNat_inj {m n : Nat} (hm : m < 256) (hn : n < 256) (h : UInt8.ofNat m = UInt8.ofNat n) : m = n := by
  have := congrArg UInt8.toNat h
  simpa [UInt8.toNat_ofNat, Nat.mod_eq_of_lt hm, Nat.mod_eq_of_lt hn] using this

theorem toNat_small {k : Nat} (h : k < 256) : (UInt8.ofNat k).toNat = k := by
  simp [Nat.mod_eq_of_lt h]

theorem dec_inj {m n : Nat} (hm : m < 100) (hn : n < 100) (h : Lib.decDigits m = Lib.decDigits n) : m = n := by
  by_cases h1 : m < 10
  · by_cases h2 : n < 10
    · rw [Lib.decDigits_one h1, Lib.decDigits_one h2] at h
      simp only [List.cons.injEq, and_true] at h
      have := ofNat_inj (by omega) (by omega) h
      omega
    · rw [Lib.decDigits_one h1, Lib.decDigits_two h2 hn] at h
      simp at h
  · by_cases h2 : n < 10
    · rw [Lib.decDigits_two h1 hm, Lib.decDigits_one h2] at h
      simp at h
    · rw [Lib.decDigits_two h1 hm, Lib.decDigits_two h2 hn] at h
      simp only [List.cons.injEq, and_true] at h
      have e1 := ofNat_inj (by omega) (by omega) h.1
      have e2 := ofNat_inj (by omega) (by omega) h.2
      omega

theorem dec_chars {n : Nat} (h : n < 100) : ∀ c ∈ Lib.decDigits n, 48 ≤ c.toNat ∧ c.toNat ≤ 57 := by
  intro c hc
  by_cases h1 : n < 10
  · rw [Lib.decDigits_one h1] at hc
    simp only [List.mem_singleton] at hc
    subst hc
    rw [toNat_small (by omega)]; omega
  · rw [Lib.decDigits_two h1 h] at hc
    simp only [List.mem_cons, List.not_mem_nil, or_false] at hc
    rcases hc with rfl | rfl
    · rw [toNat_small (by omega)]; omega
    · rw [toNat_small (by omega)]; omega

theorem split_at (c : UInt8) : ∀ (a b x y : List UInt8), c ∉ a → c ∉ b → a ++ c :: x = b ++ c :: y → a = b ∧ x = y
  | [], [], x, y, _, _, h => ⟨rfl, by simpa using h⟩
  | [], d :: b, x, y, _, hb, h => by
    simp only [List.nil_append, List.cons_append, List.cons.injEq] at h
    exact absurd (List.mem_cons.2 (.inl h.1)) hb
  | d :: a, [], x, y, ha, _, h => by
    simp only [List.nil_append, List.cons_append, List.cons.injEq] at h
    exact absurd (List.mem_cons.2 (.inl h.1.symm)) ha
  | d :: a, e :: b, x, y, ha, hb, h => by
    simp only [List.cons_append, List.cons.injEq] at h
    obtain ⟨h1, h2⟩ := split_at c a b x y (fun hc => ha (List.mem_cons_of_mem _ hc)) (fun hc => hb (List.mem_cons_of_mem _ hc)) h.2
    exact ⟨by rw [h.1, h1], h2⟩

theorem join_two (x y : List UInt8) (r : List (List UInt8)) : Lib.join (x :: y :: r) [32] = x ++ 32 :: Lib.join (y :: r) [32] := by
  rw [Lib.join_cons, Lib.join_cons]
  simp [Lib.joinTail]

theorem join_inj : ∀ (xs ys : List (List UInt8)), xs ≠ [] → ys ≠ [] → (∀ w ∈ xs, (32 : UInt8) ∉ w) → (∀ w ∈ ys, (32 : UInt8) ∉ w) → Lib.join xs [32] = Lib.join ys [32] → xs = ys
  | [], _, h, _, _, _, _ => absurd rfl h
  | _, [], _, h, _, _, _ => absurd rfl h
  | [x], [y], _, _, _, _, h => by rw [Lib.join_one, Lib.join_one] at h; rw [h]
  | [x], y :: z :: s, _, _, hx, _, h => by
    rw [Lib.join_one, join_two] at h
    exact absurd (by rw [h]; simp) (hx x (List.mem_cons_self ..))
  | x :: z :: r, [y], _, _, _, hy, h => by
    rw [Lib.join_one, join_two] at h
    exact absurd (by rw [← h]; simp) (hy y (List.mem_cons_self ..))
  | x :: u :: r, y :: v :: s, _, _, hx, hy, h => by
    rw [join_two, join_two] at h
    obtain ⟨h1, h2⟩ := split_at 32 x y _ _ (hx x (List.mem_cons_self ..)) (hy y (List.mem_cons_self ..)) h
    have h3 := join_inj (u :: r) (v :: s) (by simp) (by simp) (fun w hw => hx w (List.mem_cons_of_mem _ hw)) (fun w hw => hy w (List.mem_cons_of_mem _ hw)) h2
    rw [h1, h3]

theorem slot_chars {x : Int} (h0 : -2 ≤ x) (h1 : x ≤ 99) : (32 : UInt8) ∉ slotL x := by
  unfold slotL
  split
  · simp
  · split
    · simp
    · intro h
      have := dec_chars (n := x.toNat) (by omega) _ h
      simp at this

theorem slot_inj {x y : Int} (hx0 : -2 ≤ x) (hx1 : x ≤ 99) (hy0 : -2 ≤ y) (hy1 : y ≤ 99) (h : slotL x = slotL y) : x = y := by
  have d46 : ∀ n : Nat, n < 100 → Lib.decDigits n ≠ [46] := fun n hn e => by
    have := dec_chars hn 46 (by rw [e]; simp)
    simp at this
  have d120 : ∀ n : Nat, n < 100 → Lib.decDigits n ≠ [120] := fun n hn e => by
    have := dec_chars hn 120 (by rw [e]; simp)
    simp at this
  unfold slotL at h
  split at h
  · split at h
    · omega
    · split at h
      · simp at h
      · exact absurd h.symm (d46 _ (by omega))
  · split at h
    · split at h
      · simp at h
      · split at h
        · omega
        · exact absurd h.symm (d120 _ (by omega))
    · split at h
      · exact absurd h (d46 _ (by omega))
      · split at h
        · exact absurd h (d120 _ (by omega))
        · have := dec_inj (by omega) (by omega) h
          omega

theorem map_inj_on {f : Int → List UInt8} : ∀ (xs ys : List Int), (∀ x ∈ xs, ∀ y ∈ ys, f x = f y → x = y) → xs.map f = ys.map f → xs = ys
  | [], [], _, _ => rfl
  | [], _ :: _, _, h => by simp at h
  | _ :: _, [], _, h => by simp at h
  | x :: xs, y :: ys, hi, h => by
    simp only [List.map_cons, List.cons.injEq] at h
    rw [hi x (List.mem_cons_self ..) y (List.mem_cons_self ..) h.1, map_inj_on xs ys (fun a ha b hb => hi a (List.mem_cons_of_mem _ ha) b (List.mem_cons_of_mem _ hb)) h.2]

theorem valid_mem {T : Tab} (h : validB T = true) : ∀ x ∈ T.zs, -2 ≤ x ∧ x ≤ 99 := by
  intro x hx
  obtain ⟨j, hj, rfl⟩ := List.getElem_of_mem hx
  have := valid_slot h hj
  rw [nth, List.getElem?_eq_getElem hj] at this
  exact this

theorem fmt_inj {A B : Tab} (ha : validB A = true) (hb : validB B = true) (h : fmtL A = fmtL B) : A = B := by
  obtain ⟨⟨a1, a2⟩, ⟨a3, a4⟩, ⟨a5, a6⟩, _⟩ := valid_facts ha
  obtain ⟨⟨b1, b2⟩, ⟨b3, b4⟩, ⟨b5, b6⟩, _⟩ := valid_facts hb
  unfold fmtL preL headL at h
  rw [List.take_of_length_le (Nat.le_refl _), List.take_of_length_le (Nat.le_refl _)] at h
  simp only [List.append_assoc, List.cons_append, List.nil_append] at h
  have c43 : ∀ n : Nat, n < 100 → (43 : UInt8) ∉ Lib.decDigits n := fun n hn hc => by
    have := dec_chars hn _ hc
    simp at this
  have c58 : ∀ n : Nat, n < 100 → (58 : UInt8) ∉ Lib.decDigits n := fun n hn hc => by
    have := dec_chars hn _ hc
    simp at this
  obtain ⟨e1, h1⟩ := split_at 43 _ _ _ _ (c43 _ (by omega)) (c43 _ (by omega)) h
  obtain ⟨e2, h2⟩ := split_at 58 _ _ _ _ (c58 _ (by omega)) (c58 _ (by omega)) h1
  have ma := valid_mem ha
  have mb := valid_mem hb
  have h3 := join_inj _ _ (by intro e; have := congrArg List.length e; simp at this; rw [this] at a1; simp at a1) (by intro e; have := congrArg List.length e; simp at this; rw [this] at b1; simp at b1)
    (fun w hw => by obtain ⟨x, hx, rfl⟩ := List.mem_map.1 hw; exact slot_chars (ma x hx).1 (ma x hx).2)
    (fun w hw => by obtain ⟨x, hx, rfl⟩ := List.mem_map.1 hw; exact slot_chars (mb x hx).1 (mb x hx).2) h2
  have h4 := map_inj_on _ _ (fun x hx y hy e => slot_inj (ma x hx).1 (ma x hx).2 (mb y hy).1 (mb y hy).2 e) h3
  have t1 := dec_inj (by omega) (by omega) e1
  have t2 := dec_inj (by omega) (by omega) e2
  cases A; cases B
  simp only [Tab.mk.injEq] at *
  exact ⟨by omega, by omega, h4⟩

/-- Valid tables are the same exactly if their texts are. -/
theorem same_text {A B : Tab} (ha : validB A = true) (hb : validB B = true) {x y : ByteArray} (hx : x.data.toList = fmtOf A) (hy : y.data.toList = fmtOf B) : sameB A B = decide (x = y) := by
  by_cases e : A = B
  · subst e
    have : x = y := by
      have h := hx.trans hy.symm
      cases x; cases y
      simp at h
      rw [h]
    subst this
    simp [sameB]
  · have hne : ¬ x = y := by
      rintro rfl
      have h := hx.symm.trans hy
      simp only [fmtOf, ha, hb, if_true] at h
      exact e (fmt_inj ha hb h)
    rw [decide_eq_false hne]
    cases hs : sameB A B
    · rfl
    · exfalso
      apply e
      simp [sameB] at hs
      cases A; cases B
      simp only [Tab.mk.injEq] at *
      exact hs

end Go.Proofs.YtlhbddjaioodkaaDoor

/-
  Keys dropped one by one from the back; a table without keys needs no tomb. No program.
-/
import Derived.Test.YtpbffdjiijpigaaGreatDoorKeys
import Derived.Test.YtpbffdjiijpigaaGreatDoorMath
namespace Go.Proofs.YtpbffdjiijpigaaGreatDoor

theorem dropL_two {L zs : List Int} {x : Int} (h0 : 0 ≤ x) : dropL [x] (dropL L zs) = dropL (x :: L) zs := by
  unfold dropL
  rw [List.map_map]
  refine List.map_congr_left fun z _ => ?_
  simp only [Function.comp, List.mem_cons, List.not_mem_nil, or_false]
  by_cases h1 : z ∈ L
  · rw [if_pos h1, if_neg (by omega), if_pos (.inr h1)]
  · rw [if_neg h1]
    by_cases h2 : z = x
    · rw [if_pos h2, if_pos (.inl h2)]
    · rw [if_neg h2, if_neg (by rintro (h | h) <;> contradiction)]

theorem drop_more {T : Tab} (hs : soundB T = true) (L : List Int) {x : Int} (h0 : 0 ≤ x) (h9 : x ≤ 99) :
    (dropOk (dropAt T L) x = true ∧ dropT (dropAt T L) x = dropAt T (x :: L)) ∨ (dropOk (dropAt T L) x = false ∧ dropL (x :: L) T.zs = dropL L T.zs) := by
  have hs2 := drop_sound hs L
  have hv2 := (sound_all.1 hs2).1
  cases ok : dropOk (dropAt T L) x
  · refine .inr ⟨rfl, ?_⟩
    have hno : ∀ i, i < T.zs.length → nth (dropL L T.zs) i ≠ x := fun i hi e => by
      have e1 : nth (dropAt T L).zs i = x := e
      have := sound_find hs2 (i := i) (by simpa [dropAt, dropL] using hi) (by rw [e1]; exact h0)
      rw [e1] at this
      have hfo : findOf (dropAt T L) x = i := by rw [findOf, if_pos (by rw [hv2, inB_true ⟨h0, h9⟩]; rfl), this]
      simp [dropOk, hs2, hfo] at ok
    refine nth_ext (by simp [dropL]) fun i hi => ?_
    have hi' : i < T.zs.length := by simpa [dropL] using hi
    have := hno i hi'
    rw [dropL_nth hi'] at this
    rw [dropL_nth hi', dropL_nth hi']
    by_cases h1 : nth T.zs i ∈ L
    · rw [if_pos h1, if_pos (List.mem_cons_of_mem _ h1)]
    · rw [if_neg h1] at this ⊢
      rw [if_neg]
      intro h2
      rcases List.mem_cons.1 h2 with h | h
      · exact this h
      · exact h1 h
  · refine .inl ⟨rfl, ?_⟩
    rw [dropT_yes ok]
    show (⟨T.t, T.p, dropL [x] (dropL L T.zs)⟩ : Tab) = ⟨T.t, T.p, dropL (x :: L) T.zs⟩
    rw [dropL_two h0]

/-- What is left when all keys have been dropped. -/
structure NoneFacts (T : Tab) (N : Tab) : Prop where
  ok : dropsOk T (keysOf T) = true
  eq : dropsT T (keysOf T) = N
  snd : soundB N = true
  len : (fewT N).zs.length ≤ 16
  tomb : countT (fewT N) = 0
theorem none_facts {T : Tab} (hs : soundB T = true) : NoneFacts T (dropAt T (keysOf T)) := by
  have hv := (sound_all.1 hs).1
  obtain ⟨⟨l1, l2⟩, _⟩ := valid_facts hv
  have hk : keysOf T = sortU T.zs := by rw [keysOf, if_pos hv]
  have hok : dropsOk T (keysOf T) = true := by
    rw [dropsOk, hs, hk, Bool.true_and, keysB, Bool.and_eq_true]
    refine ⟨decide_eq_true (sortTo_len _ _), List.all_eq_true.2 fun x hx => ?_⟩
    exact inB_true (sortU_mem.1 hx).1
  have hs2 := drop_sound hs (keysOf T)
  have hneg : ∀ i, i < T.zs.length → nth (dropL (keysOf T) T.zs) i < 0 := fun i hi => by
    rw [dropL_nth hi]
    have hb := valid_slot hv hi
    by_cases h0 : 0 ≤ nth T.zs i
    · rw [if_pos]
      · omega
      · rw [hk]
        exact sortU_mem.2 ⟨⟨h0, hb.2⟩, nth_mem hi⟩
    · split <;> omega
  have hneed : ∀ i, needOf (dropAt T (keysOf T)) i = false := fun i => by
    unfold needOf
    rw [List.any_eq_false]
    intro k hkm
    have hk2 : k < T.zs.length := by have := List.mem_range.1 hkm; simpa [dropAt, dropL] using this
    have := hneg k hk2
    have e : nth (dropAt T (keysOf T)).zs k = nth (dropL (keysOf T) T.zs) k := rfl
    simp only [needP, e, Bool.and_eq_true, decide_eq_true_eq, not_and]
    intro h; omega
  have hlen : (dropAt T (keysOf T)).zs.length = T.zs.length := by simp [dropAt, dropL]
  have hnf : ∀ i, i < T.zs.length → nth (fewL (dropAt T (keysOf T))) i = if nth (dropL (keysOf T) T.zs) i = -2 then -1 else nth (dropL (keysOf T) T.zs) i := fun i hi => by
    rw [fewL, mapTo_nth (by rw [hlen]; exact hi), if_pos (by rw [hlen]; exact hi), fewF, hneed i]
    simp [dropAt]
  have hL : Less (dropAt T (keysOf T)) ⟨T.t, T.p, fewL (dropAt T (keysOf T))⟩ := ⟨rfl, rfl, fewL_len _, fun i hi => by
    rw [hlen] at hi
    show nth (fewL _) i = nth (dropL _ _) i ∨ _
    have := hnf i hi
    by_cases h : nth (dropL (keysOf T) T.zs) i = -2
    · rw [if_pos h] at this; exact .inr (.inr this)
    · rw [if_neg h] at this; exact .inl this⟩
  have hvf := hL.valid (sound_all.1 hs2).1
  refine ⟨hok, dropsT_yes hok, hs2, fewT_len _, ?_⟩
  rw [fewT_yes hs2]
  have hz : cnt tombP (fewL (dropAt T (keysOf T))) (fewL (dropAt T (keysOf T))).length = 0 := cnt_none fun i hi => by
    rw [fewL_len, hlen] at hi
    rw [hnf i hi]
    by_cases h : nth (dropL (keysOf T) T.zs) i = -2
    · rw [if_pos h]; rfl
    · rw [if_neg h]; simpa [tombP] using h
  show countT ⟨T.t, T.p, fewL (dropAt T (keysOf T))⟩ = 0
  rw [countT, if_pos hvf]
  exact congrArg _ hz

end Go.Proofs.YtpbffdjiijpigaaGreatDoor

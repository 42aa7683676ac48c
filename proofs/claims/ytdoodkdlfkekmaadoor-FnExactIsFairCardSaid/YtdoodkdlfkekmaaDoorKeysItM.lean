/-
  The iterator over a ring's keys: what it yields are keys of the table. Which tables are fair, as the program asks it.
-/
import Derived.Test.YtdoodkdlfkekmaaDoorLow
import Derived.Test.YtdoodkdlfkekmaaDoorMath
namespace Go.Proofs.YtdoodkdlfkekmaaDoor
open Go.RowKit

theorem keysL_mem {zs : List Int} {k : Nat} {x : Int} (hk : k < zs.length) (hx : nth zs k = x) (hb : inB x 0 99 = true) : x ∈ keysL zs := by
  unfold keysL
  rw [List.mem_filter]
  exact ⟨by rw [← hx]; exact nth_mem hk, hb⟩
/-- What the program asks of a key. -/
def goodK (T : Tab) (x : Int) : Bool := decide ((passN T x : Int) = awayOf T (findI T x))
theorem key_slot {T : Tab} {x : Int} (hs : soundB T = true) (hx : x ∈ keysL T.zs) : ∃ k : Nat, k < T.zs.length ∧ findOf T x = k ∧ findI T x = k ∧ nth T.zs k = x ∧ 0 ≤ x ∧ x ≤ 99 := by
  obtain ⟨hm, hb⟩ := List.mem_filter.1 hx
  obtain ⟨h0, h9⟩ := inB_iff.1 hb
  obtain ⟨i, hi, e⟩ := mem_nth hm
  have hf := sound_find hs hi (by rw [e]; exact h0)
  rw [e] at hf
  refine ⟨i, hi, ?_, hf, e, h0, h9⟩
  unfold findOf
  rw [if_pos (by rw [(sound_all.1 hs).1, hb]; rfl), hf]
theorem good_iff {T : Tab} {k : Nat} (hs : soundB T = true) (hk : k < T.zs.length) (h0 : 0 ≤ nth T.zs k) : goodK T (nth T.zs k) = slotB T k := by
  have hv := (sound_all.1 hs).1
  have hf := sound_find hs hk h0
  have hp := pass_self hv hk h0
  have ha := (away_self hv hk h0).1
  unfold goodK
  rw [hf, ha]
  cases hb : slotB T k
  · rw [hb] at hp
    exact decide_eq_false fun e => by
      have := hp.1 (by omega)
      cases this
  · rw [hb] at hp
    exact decide_eq_true (by have := hp.2 rfl; omega)
theorem fair_keys {T : Tab} (hs : soundB T = true) : fairTo T T.zs.length = (keysL T.zs).all (goodK T) := by
  rw [Bool.eq_iff_iff, fairTo_iff, List.all_eq_true]
  constructor
  · intro h x hx
    obtain ⟨k, hk, _, _, e, h0, _⟩ := key_slot hs hx
    rw [← e, good_iff hs hk (by omega)]
    exact h k hk
  · intro h i hi
    by_cases hn : nth T.zs i < 0
    · simp [slotB, hn]
    · have hv := valid_slot (sound_all.1 hs).1 hi
      rw [← good_iff hs hi (by omega)]
      exact h _ (keysL_mem hi rfl (inB_true ⟨by omega, by omega⟩))

set_option maxRecDepth 100000 in
set_option maxHeartbeats 2000000 in
theorem ringKeysM_in (n : Nat) (hn : 1 ≤ n) (l Bn g : Nat) (T : Tab) (hlen : T.zs.length ≤ 100) (J Jx : List Int → World → Prop)
    (W : World) (hJ : AbidesFrom W.heap.size J)
    (hY : ∀ pre x W1, x ∈ keysL T.zs → J pre W1 → pre.length < T.zs.length → YieldAt Fence.wide (n - 1) Tryd.prog l #[.int .i64 x] W1 fun e W' =>
      (e = .returned (.bool true) ∧ J (pre ++ [x]) W' ∧ KeepBlock g W1 W') ∨ (e = .returned (.bool false) ∧ Jx (pre ++ [x]) W'))
    (hBn : W.cell? ⟨Bn, 0, none⟩ = some (.slice (some ⟨g, 0, none⟩) T.zs.length T.zs.length)) (hR : RingAt W g T) (hg : g < W.heap.size) (h0 : J [] W) :
    CallsIn Fence.wide n Tryd.prog 32 #[.func (.yield l) #[] #[], .pointer (some ⟨Bn, 0, none⟩)] W fun e W' => (∃ v, e = .returned v) ∧
      ((∃ ys, ys = keysL T.zs ∧ J ys W') ∨ (∃ pre, True ∧ Jx pre W')) := by
  refine callsIn_of_wp Tryd.func32 rfl trivial ?_ rfl
  simp only [Tryd.ntmps32, List.size_toArray, List.length_cons, List.length_nil, Nat.reduceAdd, Nat.reduceSub, Array.replicate_succ, Array.replicate_zero, List.push_toArray, List.append_toArray, List.nil_append, List.cons_append]
  gi_wp2
  gi_loopw [7] (fun i wr => ∃ k : Nat, k ≤ T.zs.length ∧ i = .int .i64 k ∧ J (keysL (T.zs.take k)) wr ∧ KeepBlock g W wr)
    (fun i _ => T.zs.length - (intOf i).toNat)
  case atStart => exact ⟨0, Nat.zero_le _, rfl, h0, KeepBlock.refl _ _⟩
  case round =>
    obtain ⟨k, hk, rfl, hJs, hnx⟩ := hrel
    by_cases hlt : k < T.zs.length
    · obtain ⟨c0, c1⟩ := hnx.ring hR k hlt
      obtain ⟨x, hX⟩ : ∃ x, nth T.zs k = x := ⟨_, rfl⟩
      rw [hX] at c0 c1
      have X := Lib.hid hX
      clear hX
      have JA := Lib.hid (hJ _ _ _ none hJs (World.grownBy_alloc wr (.cells #[.int .i64 x, .int .i64 (homeT T x)] 43) none) (fun r e => by cases e))
      have BA := Lib.hid (hnx.alloc hg (.cells #[.int .i64 x, .int .i64 (homeT T x)] 43))
      cases hb : inB x 0 99
      · have hb' := hb
        have HB := Lib.hid hb
        clear hb hb'
        gi_wp2_with (refine ⟨trivial, ?_⟩; gi_at_call 33; refine (callsIn_wide.2 (heldIsKey_any _ _)).mono ?_; rintro e w' ⟨rfl, rfl⟩; rw [HB.out])
        refine ⟨fun _ h => (by cases h), ?_⟩
        gi_wp2
        go_roundw
        case rel => exact ⟨k + 1, by omega, by go_num, by rw [keysL_no hlt X.out HB.out]; exact JA.out, BA.out⟩
        case measure => simp [intOf]; omega
      · obtain ⟨fn, tmps, assign, body, hy, hRd⟩ := hY _ x _ (keysL_mem hlt X.out hb) JA.out (Nat.lt_of_le_of_lt (keysL_len _ _) hlt)
        have HB := Lib.hid hb
        clear hb
        gi_wp2_with (refine ⟨trivial, ?_⟩; gi_at_call 33; refine (callsIn_wide.2 (heldIsKey_any _ _)).mono ?_; rintro e w' ⟨rfl, rfl⟩; rw [HB.out])
        refine hRd.mono ?_
        rintro e W3 (⟨rfl, hJ3, hk3⟩ | ⟨rfl, hJx3⟩)
        · have B3 := Lib.hid (BA.out.trans hk3)
          gi_wp2
          go_roundw
          case rel => exact ⟨k + 1, by omega, by go_num, by rw [keysL_yes hlt X.out HB.out]; exact hJ3, B3.out⟩
          case measure => simp [intOf]; omega
        · gi_wp2
          refine bodyPost_ret (results_none rfl _ _ _) rfl ?_
          exact ⟨⟨_, rfl⟩, .inr ⟨_, trivial, hJx3⟩⟩
    · obtain rfl : k = T.zs.length := by omega
      gi_wp2
      go_end0
      exact ⟨⟨_, rfl⟩, .inl ⟨_, rfl, by rw [List.take_length] at hJs; exact hJs⟩⟩


/-- Keys of a table as data. -/
abbrev KeyM (T : Tab) := {x : Int // x ∈ keysL T.zs}

theorem ringKeysM_stops (n : Nat) (hn : 1 ≤ n) (Bn g : Nat) (T : Tab) (hlen : T.zs.length ≤ 100) (w : World) (hg : g < w.heap.size) (hb : Bn < w.heap.size)
    (hBn : w.cell? ⟨Bn, 0, none⟩ = some (.slice (some ⟨g, 0, none⟩) T.zs.length T.zs.length)) (hR : RingAt w g T) :
    SeqStopsK Fence.wide n Tryd.prog 32 #[.pointer (some ⟨Bn, 0, none⟩)] (fun x : KeyM T => #[Value.int .i64 x.1]) (KeepBlock g) (fun ys => ys.map Subtype.val = keysL T.zs) (fun _ => True) T.zs.length w := fun l J Jx W hW hJ _ hY h0 => by
  refine (ringKeysM_in n hn l Bn g T hlen (fun pre W => ∃ p : List (KeyM T), p.map Subtype.val = pre ∧ J p W) (fun pre W => ∃ p : List (KeyM T), p.map Subtype.val = pre ∧ Jx p W) W (fun s W W' row h hg hr => by
    obtain ⟨p, e, hj⟩ := h
    exact ⟨p, e, hJ _ _ _ row hj hg hr⟩) ?_ ((hW.cell (p := ⟨Bn, 0, none⟩) hb).trans hBn) (hR.below hW hg) (Nat.lt_of_lt_of_le hg hW.size) ⟨[], rfl, h0⟩).mono ?_
  · rintro pre x W1 hx ⟨p, rfl, hj⟩ hl
    obtain ⟨fn, tmps, assign, body, hy, hRd⟩ := hY p ⟨x, hx⟩ W1 hj (by simpa using hl)
    refine ⟨fn, tmps, assign, body, hy, hRd.mono ?_⟩
    rintro e W' (⟨rfl, h1, h2⟩ | ⟨rfl, h1⟩)
    · exact .inl ⟨rfl, ⟨p ++ [⟨x, hx⟩], by simp, h1⟩, h2⟩
    · exact .inr ⟨rfl, p ++ [⟨x, hx⟩], by simp, h1⟩
  · rintro e W' ⟨he, (⟨ys, hys, p, rfl, hj⟩ | ⟨pre, _, p, rfl, hj⟩)⟩
    · exact ⟨he, .inl ⟨p, hys, hj⟩⟩
    · exact ⟨he, .inr ⟨p, trivial, hj⟩⟩

end Go.Proofs.YtdoodkdlfkekmaaDoor

/-
  The iterator over a ring's keys: what it yields are keys.
-/
import Derived.Test.YtpncpeokdcolpaaKeysIt
namespace Go.Proofs.Ytpncpeokdcolpaa
open Go.RowKit

set_option maxRecDepth 100000 in
set_option maxHeartbeats 2000000 in
theorem ringKeysB_in (n : Nat) (hn : 1 ≤ n) (l Bn g : Nat) (T : Tab) (hlen : T.zs.length ≤ 100) (J Jx : List Int → World → Prop)
    (W : World) (hJ : AbidesFrom W.heap.size J)
    (hY : ∀ pre x W1, inB x 0 99 = true → J pre W1 → pre.length < T.zs.length → YieldAt Fence.wide (n - 1) Try.prog l #[.int .i64 x] W1 fun e W' =>
      (e = .returned (.bool true) ∧ J (pre ++ [x]) W' ∧ KeepBlock g W1 W') ∨ (e = .returned (.bool false) ∧ Jx (pre ++ [x]) W'))
    (hBn : W.cell? ⟨Bn, 0, none⟩ = some (.slice (some ⟨g, 0, none⟩) T.zs.length T.zs.length)) (hR : RingAt W g T) (hg : g < W.heap.size) (h0 : J [] W) :
    CallsIn Fence.wide n Try.prog 60 #[.func (.yield l) #[] #[], .pointer (some ⟨Bn, 0, none⟩)] W fun e W' => (∃ v, e = .returned v) ∧
      ((∃ ys, ys = keysL T.zs ∧ J ys W') ∨ (∃ pre, True ∧ Jx pre W')) := by
  refine callsIn_of_wp Try.func60 rfl trivial ?_ rfl
  simp only [Try.ntmps60, List.size_toArray, List.length_cons, List.length_nil, Nat.reduceAdd, Nat.reduceSub, Array.replicate_succ, Array.replicate_zero, List.push_toArray, List.append_toArray, List.nil_append, List.cons_append]
  gi_wp2
  gi_loopw [7] (fun i wr => ∃ k : Nat, k ≤ T.zs.length ∧ i = .int .i64 k ∧ J (keysL (T.zs.take k)) wr ∧ KeepBlock g W wr)
    (fun i _ => T.zs.length - (intOf i).toNat)
  case atStart => exact ⟨0, Nat.zero_le _, rfl, h0, KeepBlock.refl _ _⟩
  case round =>
    obtain ⟨k, hk, rfl, hJs, hnx⟩ := hrel
    by_cases hlt : k < T.zs.length
    · obtain ⟨c0, c1⟩ := hnx.ring hR k hlt
      obtain ⟨x, hX⟩ : ∃ x, nth T.zs k = x := ⟨_, rfl⟩
      rw [hX] at c0 c1
      have X := Lib.hid hX
      clear hX
      have JA := Lib.hid (hJ _ _ _ none hJs (World.grownBy_alloc wr (.cells #[.int .i64 x, .int .i64 (homeT T x)] 64) none) (fun r e => by cases e))
      have BA := Lib.hid (hnx.alloc hg (.cells #[.int .i64 x, .int .i64 (homeT T x)] 64))
      cases hb : inB x 0 99
      · have hb' := hb
        have HB := Lib.hid hb
        clear hb hb'
        gi_wp2_with (refine ⟨trivial, ?_⟩; gi_at_call 61; refine (callsIn_wide.2 (heldIsKey_any _ _)).mono ?_; rintro e w' ⟨rfl, rfl⟩; rw [HB.out])
        refine ⟨fun _ h => (by cases h), ?_⟩
        gi_wp2
        go_roundw
        case rel => exact ⟨k + 1, by omega, by go_num, by rw [keysL_no hlt X.out HB.out]; exact JA.out, BA.out⟩
        case measure => simp [intOf]; omega
      · obtain ⟨fn, tmps, assign, body, hy, hRd⟩ := hY _ x _ hb JA.out (Nat.lt_of_le_of_lt (keysL_len _ _) hlt)
        have HB := Lib.hid hb
        clear hb
        gi_wp2_with (refine ⟨trivial, ?_⟩; gi_at_call 61; refine (callsIn_wide.2 (heldIsKey_any _ _)).mono ?_; rintro e w' ⟨rfl, rfl⟩; rw [HB.out])
        refine hRd.mono ?_
        rintro e W3 (⟨rfl, hJ3, hk3⟩ | ⟨rfl, hJx3⟩)
        · have B3 := Lib.hid (BA.out.trans hk3)
          gi_wp2
          go_roundw
          case rel => exact ⟨k + 1, by omega, by go_num, by rw [keysL_yes hlt X.out HB.out]; exact hJ3, B3.out⟩
          case measure => simp [intOf]; omega
        · gi_wp2
          refine bodyPost_ret (results_none rfl _ _ _) rfl ?_
          exact ⟨⟨_, rfl⟩, .inr ⟨_, trivial, hJx3⟩⟩
    · obtain rfl : k = T.zs.length := by omega
      gi_wp2
      go_end0
      exact ⟨⟨_, rfl⟩, .inl ⟨_, rfl, by rw [List.take_length] at hJs; exact hJs⟩⟩


/-- Keys as data that are keys. -/
abbrev KeyB := {x : Int // inB x 0 99 = true}

theorem ringKeysB_stops (n : Nat) (hn : 1 ≤ n) (Bn g : Nat) (T : Tab) (hlen : T.zs.length ≤ 100) (w : World) (hg : g < w.heap.size) (hb : Bn < w.heap.size)
    (hBn : w.cell? ⟨Bn, 0, none⟩ = some (.slice (some ⟨g, 0, none⟩) T.zs.length T.zs.length)) (hR : RingAt w g T) :
    SeqStopsK Fence.wide n Try.prog 60 #[.pointer (some ⟨Bn, 0, none⟩)] (fun x : KeyB => #[Value.int .i64 x.1]) (KeepBlock g) (fun ys => ys.map Subtype.val = keysL T.zs) (fun _ => True) T.zs.length w := fun l J Jx W hW hJ _ hY h0 => by
  refine (ringKeysB_in n hn l Bn g T hlen (fun pre W => ∃ p : List KeyB, p.map Subtype.val = pre ∧ J p W) (fun pre W => ∃ p : List KeyB, p.map Subtype.val = pre ∧ Jx p W) W (fun s W W' row h hg hr => by
    obtain ⟨p, e, hj⟩ := h
    exact ⟨p, e, hJ _ _ _ row hj hg hr⟩) ?_ ((hW.cell (p := ⟨Bn, 0, none⟩) hb).trans hBn) (hR.below hW hg) (Nat.lt_of_lt_of_le hg hW.size) ⟨[], rfl, h0⟩).mono ?_
  · rintro pre x W1 hx ⟨p, rfl, hj⟩ hl
    obtain ⟨fn, tmps, assign, body, hy, hRd⟩ := hY p ⟨x, hx⟩ W1 hj (by simpa using hl)
    refine ⟨fn, tmps, assign, body, hy, hRd.mono ?_⟩
    rintro e W' (⟨rfl, h1, h2⟩ | ⟨rfl, h1⟩)
    · exact .inl ⟨rfl, ⟨p ++ [⟨x, hx⟩], by simp, h1⟩, h2⟩
    · exact .inr ⟨rfl, p ++ [⟨x, hx⟩], by simp, h1⟩
  · rintro e W' ⟨he, (⟨ys, hys, p, rfl, hj⟩ | ⟨pre, _, p, rfl, hj⟩)⟩
    · exact ⟨he, .inl ⟨p, hys, hj⟩⟩
    · exact ⟨he, .inr ⟨p, trivial, hj⟩⟩

end Go.Proofs.Ytpncpeokdcolpaa

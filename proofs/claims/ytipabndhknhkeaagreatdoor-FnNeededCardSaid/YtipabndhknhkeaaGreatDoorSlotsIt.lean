/-
  The iterator over the slots of a set.
-/
import Derived.Test.YtipabndhknhkeaaGreatDoorLow
import Derived.Test.YtipabndhknhkeaaGreatDoorTz
namespace Go.Proofs.YtipabndhknhkeaaGreatDoor
open Go.RowKit Go.Shelf
attribute [local go_sem] Oper.semAt_some

/-- The elements of a set, ascending. -/
def bitsI (m : Nat) : List Int := (bitsL m).map fun i : Nat => (i : Int)
theorem bitsI_len (m : Nat) : (bitsI m).length ≤ 16 := by rw [bitsI, List.length_map]; exact bitsL_len m
theorem bitsI_zero : bitsI 0 = [] := by rw [bitsI, bitsL_zero]; rfl
theorem bitsI_low {m k q : Nat} (h : LowBit m k q) (hm : m < 65536) : bitsI m = (k : Int) :: bitsI (m &&& (m - 1)) := by rw [bitsI, bitsL_low h hm]; rfl
theorem rest16 {m : Nat} (h0 : 0 < m) (hm : m < 65536) : bits BinOp.and IntKind.u16 (m : Int) (IntKind.u16.wrap ((m : Int) - 1)) = ((m &&& (m - 1) : Nat) : Int) := by
  have e : IntKind.u16.wrap ((m : Int) - 1) = ((m - 1 : Nat) : Int) := by rw [IntKind.wrap_u16]; omega
  rw [e, u16_and_nat m (m - 1) hm (by omega)]
theorem rest16' {m : Nat} (h0 : 0 < m) (hm : m < 65536) : bits BinOp.and IntKind.u16 (m : Int) ((m : Int) - 1) = ((m &&& (m - 1) : Nat) : Int) := by
  rw [show (m : Int) - 1 = ((m - 1 : Nat) : Int) by omega, u16_and_nat m (m - 1) hm (by omega)]
theorem DeB.keep {A B : World} (h : DeB A) (k : KeepBlock 0 A B) : DeB B :=
  ⟨Nat.lt_of_lt_of_le h.1 k.1, fun i hi => (World.cell?_of_block (a := ⟨0, i, none⟩) k.2).trans (h.2 i hi)⟩

set_option maxRecDepth 100000 in
set_option maxHeartbeats 2000000 in
theorem slots1_in (n : Nat) (_hn : 1 ≤ n) (l Bn m : Nat) (hm : m < 65536) (J Jx : List Int → World → Prop)
    (W : World)
    (hY : ∀ pre x W1, J pre W1 → pre.length < 16 → YieldAt Fence.wide (n - 1) Tryz.prog l #[.int .i64 x] W1 fun e W' =>
      (e = .returned (.bool true) ∧ J (pre ++ [x]) W' ∧ KeepBlock 0 W1 W') ∨ (e = .returned (.bool false) ∧ Jx (pre ++ [x]) W'))
    (hBn : W.cell? ⟨Bn, 0, none⟩ = some (.int .u16 m)) (hD : DeB W) (h0 : J [] W) :
    CallsIn Fence.wide n Tryz.prog 92 #[.func (.yield l) #[] #[], .pointer (some ⟨Bn, 0, none⟩)] W fun e W' => (∃ v, e = .returned v) ∧
      ((∃ ys, ys = bitsI m ∧ J ys W') ∨ (∃ pre, True ∧ Jx pre W')) := by
  have hml := bitsI_len m
  refine callsIn_of_wp Tryz.func92 rfl trivial ?_ rfl
  simp only [Tryz.ntmps92, List.size_toArray, List.length_cons, List.length_nil, Nat.reduceAdd, Nat.reduceSub, Array.replicate_succ, Array.replicate_zero, List.push_toArray, List.append_toArray, List.nil_append, List.cons_append]
  gi_wp2
  gi_loopw [3] (fun r wr => ∃ (k : Nat) (pre : List Int), k < 65536 ∧ r = .int .u16 k ∧ Hid (pre ++ bitsI k = bitsI m) ∧ J pre wr ∧ KeepBlock 0 W wr)
    (fun r _ => (intOf r).toNat)
  case atStart => exact ⟨m, [], hm, rfl, Lib.hid rfl, h0, KeepBlock.refl _ _⟩
  case round =>
    obtain ⟨k, pre, hk, rfl, HP, hJs, hnx⟩ := hrel
    by_cases h0 : 0 < k
    · obtain ⟨b, q, hL⟩ := low_bit h0
      have hne : ((k : Int) != 0) = true := by simp; omega
      have HB := Lib.hid (bitsI_low hL hk)
      have hR := Lib.hid (rest16 h0 hk)
      have hR2 := Lib.hid (rest16' h0 hk)
      have hrl : k &&& (k - 1) < k := rest_lt h0
      have HT := Lib.hid (tz_any k b q hk hL wr (hD.keep hnx))
      have hpl : pre.length < 16 := by
        have := congrArg List.length HP.out
        rw [HB.out] at this
        simp at this; omega
      obtain ⟨fn, tmps, assign, body, hy, hRd⟩ := hY _ (b : Int) _ hJs hpl
      generalize k &&& (k - 1) = k' at HB hR hR2 hrl
      gi_wp2_with (refine ⟨trivial, ?_⟩; gi_at_call 93; refine (callsIn_wide.2 HT.out).mono ?_; rintro e w' ⟨rfl, rfl⟩)
      refine hRd.mono ?_
      rintro e W3 (⟨rfl, hJ3, hk3⟩ | ⟨rfl, hJx3⟩)
      · have B3 := Lib.hid (hnx.trans hk3)
        gi_wp2
        go_roundw
        case rel => exact ⟨k', _, by omega, by first | rfl | rw [hR2.out] | rw [hR.out], Lib.hid (by rw [← HP.out, HB.out]; simp), hJ3, B3.out⟩
        case measure => first | rw [hR2.out] | rw [hR.out]
                        simp [intOf]; omega
      · gi_wp2
        refine bodyPost_ret (results_none rfl _ _ _) rfl ?_
        exact ⟨⟨_, rfl⟩, .inr ⟨_, trivial, hJx3⟩⟩
    · obtain rfl : k = 0 := by omega
      gi_wp2
      go_end0
      exact ⟨⟨_, rfl⟩, .inl ⟨_, rfl, by have e := HP.out; rw [bitsI_zero, List.append_nil] at e; rw [← e]; exact hJs⟩⟩

set_option maxHeartbeats 1000000 in
/-- slotSet.slots: the set is boxed; the function value captures the box. -/
theorem slots_any (m : Nat) (w : World) :
    Calls Tryz.prog 60 #[.int .u16 m] w fun e w' => e = .returned (.func (.func 92) #[] #[.pointer (some ⟨w.heap.size, 0, none⟩)]) ∧ w' = w.alloc (.cells #[.int .u16 m] 76) := by
  go_enter Tryz.func60, Tryz.ntmps60
  go_wp2
  go_ret
  exact ⟨rfl, rfl⟩

theorem slots_stops (n : Nat) (hn : 1 ≤ n) (Bn m : Nat) (hm : m < 65536) (w : World) (hb : Bn < w.heap.size) (hb0 : 0 < w.heap.size)
    (hBn : w.cell? ⟨Bn, 0, none⟩ = some (.int .u16 m)) (hD : DeB w) :
    SeqStopsK Fence.wide n Tryz.prog 92 #[.pointer (some ⟨Bn, 0, none⟩)] (fun x : Int => #[Value.int .i64 x]) (KeepBlock 0) (fun ys => ys = bitsI m) (fun _ => True) 16 w := fun l J Jx W hW _ _ hY h0 =>
  slots1_in n hn l Bn m hm J Jx W hY ((hW.cell (p := ⟨Bn, 0, none⟩) hb).trans hBn) (hD.below hW hb0) h0

end Go.Proofs.YtipabndhknhkeaaGreatDoor

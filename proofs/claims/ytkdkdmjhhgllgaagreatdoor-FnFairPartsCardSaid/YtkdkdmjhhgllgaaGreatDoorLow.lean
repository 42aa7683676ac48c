/-
  More of the lowest functions: frames, new tables, keys.
-/
import Derived.Test.YtkdkdmjhhgllgaaGreatDoorBase
import Derived.ProofKit
import Derived.Deep.RegionHeld3
import Derived.RangeFuncBox
import Derived.RangeFuncNested
import Derived.RangeFuncBound
import Derived.RangeFuncCalls
import Derived.RangeFuncLeaves
import Derived.Shelf.Abstract
import Derived.OwnWalkIn
import Derived.TacticsInMore
import Derived.LoopNIn
import Derived.LoopIn
import Derived.Maps.AppendAt
import Derived.Test.YtkdkdmjhhgllgaaGreatDoorMath
namespace Go.Proofs.YtkdkdmjhhgllgaaGreatDoor
open Go.RowKit

/-- A slice of numbers that came in: nil, or a row of cap cells. -/
def IsRow (k : IntKind) (w : World) (a : Option Addr) (len cap : Nat) (zs : List Int) : Prop :=
  (a = none ∧ len = 0 ∧ cap = 0 ∧ zs = []) ∨
  ∃ x, a = some x ∧ len ≤ cap ∧ cap ≤ maxLen ∧ zs.length = cap ∧ (∀ i, i < zs.length → w.cell? (x.add i) = some (.int k (zs.getD i 0))) ∧ ∀ n ∈ zs, (Lit.int k n).wf = true

/-- The cells at a hold the numbers zs, of kind k. -/
def NumsAt (k : IntKind) (w : World) (a : Option Addr) (zs : List Int) : Prop :=
  0 < zs.length → ∃ b off, a = some ⟨b, off, none⟩ ∧ ∀ j, j < zs.length → w.cell? ⟨b, off + j, none⟩ = some (.int k (zs[j]?.getD 0))

theorem row_nums {k : IntKind} {w : World} {a : Option Addr} {len cap : Nat} {zs : List Int} (h : IsRow k w a len cap zs) :
    ∃ ys : List Int, len = ys.length ∧ NumsAt k w a ys ∧ ys.length ≤ 9223372036854775807 ∧ ∀ x ∈ ys, (Lit.int k x).wf = true := by
  rcases h with ⟨rfl, rfl, rfl, rfl⟩ | ⟨⟨b, off, sp⟩, rfl, hl, hm, hz, hc, hw⟩
  · exact ⟨[], rfl, fun h => (by simp at h), by simp, fun x hx => (by cases hx)⟩
  · refine ⟨zs.take len, by simp; omega, fun h0 => ?_, by unfold maxLen at hm; simp; omega, fun x hx => hw x (List.mem_of_mem_take hx)⟩
    have hlen : 0 < len := by simp at h0; omega
    have h1 := hc 0 (by omega)
    have hsp : sp = none := by
      cases sp with
      | none => rfl
      | some s => simp [Addr.add, World.cell?] at h1; split at h1 <;> simp at h1
    subst hsp
    refine ⟨b, off, rfl, fun j hj => ?_⟩
    have hj' : j < len := by simp at hj; omega
    have h2 := hc j (by omega)
    have e : (⟨b, off, none⟩ : Addr).add j = ⟨b, off + j, none⟩ := by
      unfold Addr.add
      split
      · rename_i h; subst h; rfl
      · rfl
    rw [e] at h2
    rw [h2]
    simp [List.getD, hj']

theorem NumsAt.ints {w : World} {a : Option Addr} {zs : List Int} (h : NumsAt .i64 w a zs) : IntsAt w a zs := h

/-- A table that came in. -/
structure TabIn (w : World) (T : Tab) (a : Option Addr) : Prop where
  at_ : IntsAt w a T.zs
  len : T.zs.length ≤ 9223372036854775807
  t : (Lit.int .i64 T.t).wf = true
  p : (Lit.int .i64 T.p).wf = true
  zs : ∀ x ∈ T.zs, (Lit.int .i64 x).wf = true

end Go.Proofs.YtkdkdmjhhgllgaaGreatDoor

namespace Go.Proofs.YtkdkdmjhhgllgaaGreatDoor
open Go.RowKit

theorem keep6 {W W' : World} {b1 b2 : Nat} {x0 x1 x2 y0 y1 y2 : Value} (hb : Below W.heap.size W W') (z1 : b1 < W.heap.size) (z2 : b2 < W.heap.size)
    (h : W.cell? ⟨b1, 0, none⟩ = some x0 ∧ W.cell? ⟨b1, 1, none⟩ = some x1 ∧ W.cell? ⟨b1, 2, none⟩ = some x2 ∧ W.cell? ⟨b2, 0, none⟩ = some y0 ∧ W.cell? ⟨b2, 1, none⟩ = some y1 ∧ W.cell? ⟨b2, 2, none⟩ = some y2) :
    W'.cell? ⟨b1, 0, none⟩ = some x0 ∧ W'.cell? ⟨b1, 1, none⟩ = some x1 ∧ W'.cell? ⟨b1, 2, none⟩ = some x2 ∧ W'.cell? ⟨b2, 0, none⟩ = some y0 ∧ W'.cell? ⟨b2, 1, none⟩ = some y1 ∧ W'.cell? ⟨b2, 2, none⟩ = some y2 :=
  ⟨(hb.cell (p := ⟨b1, 0, none⟩) z1).trans h.1, (hb.cell (p := ⟨b1, 1, none⟩) z1).trans h.2.1, (hb.cell (p := ⟨b1, 2, none⟩) z1).trans h.2.2.1,
   (hb.cell (p := ⟨b2, 0, none⟩) z2).trans h.2.2.2.1, (hb.cell (p := ⟨b2, 1, none⟩) z2).trans h.2.2.2.2.1, (hb.cell (p := ⟨b2, 2, none⟩) z2).trans h.2.2.2.2.2⟩

end Go.Proofs.YtkdkdmjhhgllgaaGreatDoor

namespace Go.Proofs.YtkdkdmjhhgllgaaGreatDoor
open Go.RowKit Go.Shelf
attribute [local go_sem] Oper.semAt_some

/-- The keys that slots hold, in the order of the slots. -/
def keysL (zs : List Int) : List Int := zs.filter fun x => inB x 0 99
theorem keysL_yes {zs : List Int} {k : Nat} {x : Int} (hk : k < zs.length) (hx : nth zs k = x) (h : inB x 0 99 = true) : keysL (zs.take (k + 1)) = keysL (zs.take k) ++ [x] := by
  have e : zs[k] = x := by simpa [nth, List.getElem?_eq_getElem hk] using hx
  rw [List.take_succ_eq_append_getElem hk, e]
  simp [keysL, List.filter_append, h]
theorem keysL_no {zs : List Int} {k : Nat} {x : Int} (hk : k < zs.length) (hx : nth zs k = x) (h : inB x 0 99 = false) : keysL (zs.take (k + 1)) = keysL (zs.take k) := by
  have e : zs[k] = x := by simpa [nth, List.getElem?_eq_getElem hk] using hx
  rw [List.take_succ_eq_append_getElem hk, e]
  simp [keysL, List.filter_append, h]
theorem keysL_len (zs : List Int) (k : Nat) : (keysL (zs.take k)).length ≤ k := Nat.le_trans (List.length_filter_le _ _) (List.length_take_le _ _)

/-- A block that lies as it lay. -/
def KeepBlock (g : Nat) (A B : World) : Prop := A.heap.size ≤ B.heap.size ∧ B.heap[g]? = A.heap[g]?
theorem KeepBlock.refl (g : Nat) (A : World) : KeepBlock g A A := ⟨Nat.le_refl _, rfl⟩
theorem KeepBlock.trans {g : Nat} {A B C : World} (h : KeepBlock g A B) (k : KeepBlock g B C) : KeepBlock g A C := ⟨Nat.le_trans h.1 k.1, k.2.trans h.2⟩
theorem KeepBlock.alloc {g : Nat} {A B : World} (h : KeepBlock g A B) (hg : g < A.heap.size) (o : Obj) : KeepBlock g A (B.alloc o) := ⟨by have := h.1; simp; omega, (Below.heap_alloc B o g (Nat.lt_of_lt_of_le hg h.1)).trans h.2⟩
theorem KeepBlock.ring {g : Nat} {A B : World} (h : KeepBlock g A B) {T : Tab} (hR : RingAt A g T) : RingAt B g T := fun i hi =>
  ⟨(World.cell?_of_block (a := ⟨g, i * 2, none⟩) h.2).trans (hR i hi).1, (World.cell?_of_block (a := ⟨g, i * 2 + 1, none⟩) h.2).trans (hR i hi).2⟩
theorem KeepBlock.of_below {g : Nat} {A B : World} (h : Below A.heap.size A B) (hg : g < A.heap.size) : KeepBlock g A B := ⟨h.size, h.block g hg⟩

set_option maxRecDepth 100000 in
set_option maxHeartbeats 2000000 in
theorem ringKeys1_in (n : Nat) (hn : 1 ≤ n) (l Bn g : Nat) (T : Tab) (hlen : T.zs.length ≤ 100) (J Jx : List Int → World → Prop)
    (W : World) (hJ : AbidesFrom W.heap.size J)
    (hY : ∀ pre x W1, J pre W1 → pre.length < T.zs.length → YieldAt Fence.wide (n - 1) Tryz.prog l #[.int .i64 x] W1 fun e W' =>
      (e = .returned (.bool true) ∧ J (pre ++ [x]) W' ∧ KeepBlock g W1 W') ∨ (e = .returned (.bool false) ∧ Jx (pre ++ [x]) W'))
    (hBn : W.cell? ⟨Bn, 0, none⟩ = some (.slice (some ⟨g, 0, none⟩) T.zs.length T.zs.length)) (hR : RingAt W g T) (hg : g < W.heap.size) (h0 : J [] W) :
    CallsIn Fence.wide n Tryz.prog 74 #[.func (.yield l) #[] #[], .pointer (some ⟨Bn, 0, none⟩)] W fun e W' => (∃ v, e = .returned v) ∧
      ((∃ ys, ys = keysL T.zs ∧ J ys W') ∨ (∃ pre, True ∧ Jx pre W')) := by
  refine callsIn_of_wp Tryz.func74 rfl trivial ?_ rfl
  simp only [Tryz.ntmps74, List.size_toArray, List.length_cons, List.length_nil, Nat.reduceAdd, Nat.reduceSub, Array.replicate_succ, Array.replicate_zero, List.push_toArray, List.append_toArray, List.nil_append, List.cons_append]
  gi_wp2
  gi_loopw [7] (fun i wr => ∃ k : Nat, k ≤ T.zs.length ∧ i = .int .i64 k ∧ J (keysL (T.zs.take k)) wr ∧ KeepBlock g W wr)
    (fun i _ => T.zs.length - (intOf i).toNat)
  case atStart => exact ⟨0, Nat.zero_le _, rfl, h0, KeepBlock.refl _ _⟩
  case round =>
    obtain ⟨k, hk, rfl, hJs, hnx⟩ := hrel
    by_cases hlt : k < T.zs.length
    · obtain ⟨c0, c1⟩ := hnx.ring hR k hlt
      obtain ⟨x, hX⟩ : ∃ x, nth T.zs k = x := ⟨_, rfl⟩
      rw [hX] at c0 c1
      have X := Lib.hid hX
      clear hX
      have JA := Lib.hid (hJ _ _ _ none hJs (World.grownBy_alloc wr (.cells #[.int .i64 x, .int .i64 (homeT T x)] 73) none) (fun r e => by cases e))
      have BA := Lib.hid (hnx.alloc hg (.cells #[.int .i64 x, .int .i64 (homeT T x)] 73))
      cases hb : inB x 0 99
      · have hb' := hb
        have HB := Lib.hid hb
        clear hb hb'
        gi_wp2_with (refine ⟨trivial, ?_⟩; gi_at_call 66; refine (callsIn_wide.2 (heldIsKey_any _ _)).mono ?_; rintro e w' ⟨rfl, rfl⟩; rw [HB.out])
        refine ⟨fun _ h => (by cases h), ?_⟩
        gi_wp2
        go_roundw
        case rel => exact ⟨k + 1, by omega, by go_num, by rw [keysL_no hlt X.out HB.out]; exact JA.out, BA.out⟩
        case measure => simp [intOf]; omega
      · obtain ⟨fn, tmps, assign, body, hy, hRd⟩ := hY _ x _ JA.out (Nat.lt_of_le_of_lt (keysL_len _ _) hlt)
        have HB := Lib.hid hb
        clear hb
        gi_wp2_with (refine ⟨trivial, ?_⟩; gi_at_call 66; refine (callsIn_wide.2 (heldIsKey_any _ _)).mono ?_; rintro e w' ⟨rfl, rfl⟩; rw [HB.out])
        refine hRd.mono ?_
        rintro e W3 (⟨rfl, hJ3, hk3⟩ | ⟨rfl, hJx3⟩)
        · have B3 := Lib.hid (BA.out.trans hk3)
          gi_wp2
          go_roundw
          case rel => exact ⟨k + 1, by omega, by go_num, by rw [keysL_yes hlt X.out HB.out]; exact hJ3, B3.out⟩
          case measure => simp [intOf]; omega
        · gi_wp2
          refine bodyPost_ret (results_none rfl _ _ _) rfl ?_
          exact ⟨⟨_, rfl⟩, .inr ⟨_, trivial, hJx3⟩⟩
    · obtain rfl : k = T.zs.length := by omega
      gi_wp2
      go_end0
      exact ⟨⟨_, rfl⟩, .inl ⟨_, rfl, by rw [List.take_length] at hJs; exact hJs⟩⟩

set_option maxHeartbeats 1000000 in
/-- ring.keys: the receiver is boxed; the function value captures the box. -/
theorem ringKeys_any (a : Option Addr) (m c : Nat) (w : World) :
    Calls Tryz.prog 38 #[.slice a m c] w fun e w' => e = .returned (.func (.func 74) #[] #[.pointer (some ⟨w.heap.size, 0, none⟩)]) ∧ w' = w.alloc (.cells #[.slice a m c] 70) := by
  go_enter Tryz.func38, Tryz.ntmps38
  go_wp2
  go_ret
  exact ⟨rfl, rfl⟩

theorem ringKeys_stops (n : Nat) (hn : 1 ≤ n) (Bn g : Nat) (T : Tab) (hlen : T.zs.length ≤ 100) (w : World) (hg : g < w.heap.size) (hb : Bn < w.heap.size)
    (hBn : w.cell? ⟨Bn, 0, none⟩ = some (.slice (some ⟨g, 0, none⟩) T.zs.length T.zs.length)) (hR : RingAt w g T) :
    SeqStopsK Fence.wide n Tryz.prog 74 #[.pointer (some ⟨Bn, 0, none⟩)] (fun x : Int => #[Value.int .i64 x]) (KeepBlock g) (fun ys => ys = keysL T.zs) (fun _ => True) T.zs.length w := fun l J Jx W hW hJ _ hY h0 =>
  ringKeys1_in n hn l Bn g T hlen J Jx W hJ hY ((hW.cell (p := ⟨Bn, 0, none⟩) hb).trans hBn) (hR.below hW hg) (Nat.lt_of_lt_of_le hg hW.size) h0

end Go.Proofs.YtkdkdmjhhgllgaaGreatDoor

namespace Go.Proofs.YtkdkdmjhhgllgaaGreatDoor
open Go.RowKit

set_option maxRecDepth 100000 in
set_option maxHeartbeats 2000000 in
theorem ringKeysB_in (n : Nat) (hn : 1 ≤ n) (l Bn g : Nat) (T : Tab) (hlen : T.zs.length ≤ 100) (J Jx : List Int → World → Prop)
    (W : World) (hJ : AbidesFrom W.heap.size J)
    (hY : ∀ pre x W1, inB x 0 99 = true → J pre W1 → pre.length < T.zs.length → YieldAt Fence.wide (n - 1) Tryz.prog l #[.int .i64 x] W1 fun e W' =>
      (e = .returned (.bool true) ∧ J (pre ++ [x]) W' ∧ KeepBlock g W1 W') ∨ (e = .returned (.bool false) ∧ Jx (pre ++ [x]) W'))
    (hBn : W.cell? ⟨Bn, 0, none⟩ = some (.slice (some ⟨g, 0, none⟩) T.zs.length T.zs.length)) (hR : RingAt W g T) (hg : g < W.heap.size) (h0 : J [] W) :
    CallsIn Fence.wide n Tryz.prog 74 #[.func (.yield l) #[] #[], .pointer (some ⟨Bn, 0, none⟩)] W fun e W' => (∃ v, e = .returned v) ∧
      ((∃ ys, ys = keysL T.zs ∧ J ys W') ∨ (∃ pre, True ∧ Jx pre W')) := by
  refine callsIn_of_wp Tryz.func74 rfl trivial ?_ rfl
  simp only [Tryz.ntmps74, List.size_toArray, List.length_cons, List.length_nil, Nat.reduceAdd, Nat.reduceSub, Array.replicate_succ, Array.replicate_zero, List.push_toArray, List.append_toArray, List.nil_append, List.cons_append]
  gi_wp2
  gi_loopw [7] (fun i wr => ∃ k : Nat, k ≤ T.zs.length ∧ i = .int .i64 k ∧ J (keysL (T.zs.take k)) wr ∧ KeepBlock g W wr)
    (fun i _ => T.zs.length - (intOf i).toNat)
  case atStart => exact ⟨0, Nat.zero_le _, rfl, h0, KeepBlock.refl _ _⟩
  case round =>
    obtain ⟨k, hk, rfl, hJs, hnx⟩ := hrel
    by_cases hlt : k < T.zs.length
    · obtain ⟨c0, c1⟩ := hnx.ring hR k hlt
      obtain ⟨x, hX⟩ : ∃ x, nth T.zs k = x := ⟨_, rfl⟩
      rw [hX] at c0 c1
      have X := Lib.hid hX
      clear hX
      have JA := Lib.hid (hJ _ _ _ none hJs (World.grownBy_alloc wr (.cells #[.int .i64 x, .int .i64 (homeT T x)] 73) none) (fun r e => by cases e))
      have BA := Lib.hid (hnx.alloc hg (.cells #[.int .i64 x, .int .i64 (homeT T x)] 73))
      cases hb : inB x 0 99
      · have hb' := hb
        have HB := Lib.hid hb
        clear hb hb'
        gi_wp2_with (refine ⟨trivial, ?_⟩; gi_at_call 66; refine (callsIn_wide.2 (heldIsKey_any _ _)).mono ?_; rintro e w' ⟨rfl, rfl⟩; rw [HB.out])
        refine ⟨fun _ h => (by cases h), ?_⟩
        gi_wp2
        go_roundw
        case rel => exact ⟨k + 1, by omega, by go_num, by rw [keysL_no hlt X.out HB.out]; exact JA.out, BA.out⟩
        case measure => simp [intOf]; omega
      · obtain ⟨fn, tmps, assign, body, hy, hRd⟩ := hY _ x _ hb JA.out (Nat.lt_of_le_of_lt (keysL_len _ _) hlt)
        have HB := Lib.hid hb
        clear hb
        gi_wp2_with (refine ⟨trivial, ?_⟩; gi_at_call 66; refine (callsIn_wide.2 (heldIsKey_any _ _)).mono ?_; rintro e w' ⟨rfl, rfl⟩; rw [HB.out])
        refine hRd.mono ?_
        rintro e W3 (⟨rfl, hJ3, hk3⟩ | ⟨rfl, hJx3⟩)
        · have B3 := Lib.hid (BA.out.trans hk3)
          gi_wp2
          go_roundw
          case rel => exact ⟨k + 1, by omega, by go_num, by rw [keysL_yes hlt X.out HB.out]; exact hJ3, B3.out⟩
          case measure => simp [intOf]; omega
        · gi_wp2
          refine bodyPost_ret (results_none rfl _ _ _) rfl ?_
          exact ⟨⟨_, rfl⟩, .inr ⟨_, trivial, hJx3⟩⟩
    · obtain rfl : k = T.zs.length := by omega
      gi_wp2
      go_end0
      exact ⟨⟨_, rfl⟩, .inl ⟨_, rfl, by rw [List.take_length] at hJs; exact hJs⟩⟩


/-- Keys as data that are keys. -/
abbrev KeyB := {x : Int // inB x 0 99 = true}

theorem ringKeysB_stops (n : Nat) (hn : 1 ≤ n) (Bn g : Nat) (T : Tab) (hlen : T.zs.length ≤ 100) (w : World) (hg : g < w.heap.size) (hb : Bn < w.heap.size)
    (hBn : w.cell? ⟨Bn, 0, none⟩ = some (.slice (some ⟨g, 0, none⟩) T.zs.length T.zs.length)) (hR : RingAt w g T) :
    SeqStopsK Fence.wide n Tryz.prog 74 #[.pointer (some ⟨Bn, 0, none⟩)] (fun x : KeyB => #[Value.int .i64 x.1]) (KeepBlock g) (fun ys => ys.map Subtype.val = keysL T.zs) (fun _ => True) T.zs.length w := fun l J Jx W hW hJ _ hY h0 => by
  refine (ringKeysB_in n hn l Bn g T hlen (fun pre W => ∃ p : List KeyB, p.map Subtype.val = pre ∧ J p W) (fun pre W => ∃ p : List KeyB, p.map Subtype.val = pre ∧ Jx p W) W (fun s W W' row h hg hr => by
    obtain ⟨p, e, hj⟩ := h
    exact ⟨p, e, hJ _ _ _ row hj hg hr⟩) ?_ ((hW.cell (p := ⟨Bn, 0, none⟩) hb).trans hBn) (hR.below hW hg) (Nat.lt_of_lt_of_le hg hW.size) ⟨[], rfl, h0⟩).mono ?_
  · rintro pre x W1 hx ⟨p, rfl, hj⟩ hl
    obtain ⟨fn, tmps, assign, body, hy, hRd⟩ := hY p ⟨x, hx⟩ W1 hj (by simpa using hl)
    refine ⟨fn, tmps, assign, body, hy, hRd.mono ?_⟩
    rintro e W' (⟨rfl, h1, h2⟩ | ⟨rfl, h1⟩)
    · exact .inl ⟨rfl, ⟨p ++ [⟨x, hx⟩], by simp, h1⟩, h2⟩
    · exact .inr ⟨rfl, p ++ [⟨x, hx⟩], by simp, h1⟩
  · rintro e W' ⟨he, (⟨ys, hys, p, rfl, hj⟩ | ⟨pre, _, p, rfl, hj⟩)⟩
    · exact ⟨he, .inl ⟨p, hys, hj⟩⟩
    · exact ⟨he, .inr ⟨p, trivial, hj⟩⟩

end Go.Proofs.YtkdkdmjhhgllgaaGreatDoor

namespace Go.Proofs.YtkdkdmjhhgllgaaGreatDoor
open Go.RowKit
end Go.Proofs.YtkdkdmjhhgllgaaGreatDoor

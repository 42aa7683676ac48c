/-
  The iterator around a ring.
-/
import Derived.Test.YtblkafmamnimjaaGreatDoorLow
import Derived.Test.YtblkafmamnimjaaGreatDoorMath
import Derived.Test.YtblkafmamnimjaaGreatDoorBase
namespace Go.Proofs.YtblkafmamnimjaaGreatDoor
open Go.RowKit Go.Shelf
attribute [local go_sem] Oper.semAt_some

/-- The blocks of a range lie as they lay. -/
def KeepRange (lo hi : Nat) (A B : World) : Prop := A.heap.size ≤ B.heap.size ∧ ∀ k, lo ≤ k → k < hi → B.heap[k]? = A.heap[k]?
theorem KeepRange.refl (lo hi : Nat) (A : World) : KeepRange lo hi A A := ⟨Nat.le_refl _, fun _ _ _ => rfl⟩
theorem KeepRange.trans {lo hi : Nat} {A B C : World} (h : KeepRange lo hi A B) (k : KeepRange lo hi B C) : KeepRange lo hi A C := ⟨Nat.le_trans h.1 k.1, fun i h1 h2 => (k.2 i h1 h2).trans (h.2 i h1 h2)⟩
theorem KeepRange.below {lo hi : Nat} {A B C : World} (h : KeepRange lo hi A B) (hb : Below B.heap.size B C) (hh : hi ≤ A.heap.size) : KeepRange lo hi A C := h.trans ⟨hb.size, fun k _ h2 => hb.block k (by have := h.1; omega)⟩
theorem KeepRange.set {lo hi : Nat} {A B : World} (h : KeepRange lo hi A B) {p : Addr} (hp : p.block < lo ∨ hi ≤ p.block) (v : Value) : KeepRange lo hi A (B.setCell p v) :=
  h.trans ⟨by simp [World.setCell], fun k h1 h2 => Below.heap_setCell B p v k (by omega)⟩
theorem KeepRange.cell {lo hi : Nat} {A B : World} (h : KeepRange lo hi A B) {b o : Nat} {v : Value} (h1 : lo ≤ b) (h2 : b < hi) (hc : A.cell? ⟨b, o, none⟩ = some v) : B.cell? ⟨b, o, none⟩ = some v :=
  (World.cell?_of_block (a := ⟨b, o, none⟩) (h.2 b h1 h2)).trans hc
theorem KeepRange.ring {lo hi : Nat} {A B : World} (h : KeepRange lo hi A B) {g : Nat} {T : Tab} (h1 : lo ≤ g) (h2 : g < hi) (hR : RingAt A g T) : RingAt B g T := fun i hi' =>
  ⟨h.cell h1 h2 (hR i hi').1, h.cell h1 h2 (hR i hi').2⟩
theorem keepRange_b {lo hi : Nat} {w : World} (hw : hi ≤ w.heap.size) (W : World) (l : Nat) (o o' : Obj) (hl : w.heap.size ≤ l) (_ : W.heap[l]? = some o) (_ : o.isCells = false) (_ : o.isWalk = false) : KeepRange lo hi W (W.putObj l o') :=
  ⟨by simp, fun _ _ h2 => keep_put' (by omega)⟩
where
  keep_put' {W : World} {g l : Nat} {o : Obj} (h : g < l) : (W.putObj l o).heap[g]? = W.heap[g]? := by
    simp [World.putObj, Array.getElem?_setIfInBounds]
    intro e; omega

/-- What one step yields. -/
abbrev encS (T : Tab) (h : Nat) (i : Nat) : Array Value := #[.int .i64 (stepS T h i), .agg #[.int .i64 (nth T.zs (stepS T h i)), .int .i64 (homeT T (nth T.zs (stepS T h i)))]]

/-- One step of a way as the program counts it. -/
theorem step_cast' (T : Tab) (h j : Nat) : ((h : Int) + (j : Int)) % (T.zs.length : Int) = (stepS T h j : Int) := by
  simp [stepS]

set_option maxRecDepth 100000 in
set_option maxHeartbeats 2000000 in
theorem around1_in (n : Nat) (hn : 1 ≤ n) (l B1 B2 g lo hi h : Nat) (T : Tab) (l1 : 1 ≤ T.zs.length) (l2 : T.zs.length ≤ 16) (hh : h < T.zs.length) (J Jx : List Nat → World → Prop) (W : World)
    (hY : ∀ pre x W1, J pre W1 → pre.length < T.zs.length → YieldAt Fence.wide (n - 1) Tryz.prog l (encS T h x) W1 fun e W' =>
      (e = .returned (.bool true) ∧ J (pre ++ [x]) W' ∧ KeepRange lo hi W1 W') ∨ (e = .returned (.bool false) ∧ Jx (pre ++ [x]) W'))
    (hB1 : W.cell? ⟨B1, 0, none⟩ = some (.slice (some ⟨g, 0, none⟩) T.zs.length T.zs.length)) (hB2 : W.cell? ⟨B2, 0, none⟩ = some (.int .i64 h)) (hR : RingAt W g T)
    (b1 : lo ≤ B1) (b1' : B1 < hi) (b2 : lo ≤ B2) (b2' : B2 < hi) (hg : lo ≤ g) (hg' : g < hi) (h0 : J [] W) :
    CallsIn Fence.wide n Tryz.prog 106 #[.func (.yield l) #[] #[], .pointer (some ⟨B1, 0, none⟩), .pointer (some ⟨B2, 0, none⟩)] W fun e W' => (∃ v, e = .returned v) ∧
      ((∃ ys, ys = List.range T.zs.length ∧ J ys W') ∨ (∃ pre, (∃ k, k ≤ T.zs.length ∧ List.range k = pre) ∧ Jx pre W')) := by
  refine callsIn_of_wp Tryz.func106 rfl trivial ?_ rfl
  simp only [Tryz.ntmps106, List.size_toArray, List.length_cons, List.length_nil, Nat.reduceAdd, Nat.reduceSub, Array.replicate_succ, Array.replicate_zero, List.push_toArray, List.append_toArray, List.nil_append, List.cons_append]
  have R0 := Lib.hid hR
  clear hR
  gi_wp2
  gi_loopw [8] (fun i wr => ∃ k : Nat, k ≤ T.zs.length ∧ i = .int .i64 k ∧ J (List.range k) wr ∧ KeepRange lo hi W wr)
    (fun i _ => T.zs.length - (intOf i).toNat)
  case atStart => exact ⟨0, Nat.zero_le _, rfl, h0, KeepRange.refl _ _ _⟩
  case round =>
    obtain ⟨k, hk, rfl, hJs, hkr⟩ := hrel
    by_cases hlt : k < T.zs.length
    · have c1 := hkr.cell b1 b1' hB1
      have c2 := hkr.cell b2 b2' hB2
      have hkl := stepS_lt l1 h k
      obtain ⟨r0, r1⟩ := hkr.ring hg hg' R0.out _ hkl
      obtain ⟨fn, tmps, assign, body, hy, hRd⟩ := hY _ k _ hJs (by simpa using hlt)
      dsimp only [encS] at hy
      have HS := Lib.hid (step_cast' T h k)
      have HR := Lib.hid (List.range_succ (n := k))
      have HK := Lib.hid hkr
      clear hkr hB1 hB2 hJs
      generalize stepS T h k = kk at hkl r0 r1 hy HS
      generalize nth T.zs kk = x at r0 r1 hy
      gi_wp2_with (refine ⟨trivial, ?_⟩; gi_at_call 88; refine (callsIn_wide.2 (wrap_any _ _ _ _ _ l1 l2 (by omega) (by omega))).mono ?_; rintro e w' ⟨rfl, rfl⟩; rw [HS.out])
      refine hRd.mono ?_
      rintro e W3 (⟨rfl, hJ3, hk3⟩ | ⟨rfl, hJx3⟩)
      · have B3 := Lib.hid (HK.out.trans hk3)
        gi_wp2
        go_roundw
        case rel => exact ⟨k + 1, by omega, by go_num, by rw [HR.out]; exact hJ3, B3.out⟩
        case measure => simp [intOf]; omega
      · gi_wp2
        refine bodyPost_ret (results_none rfl _ _ _) rfl ?_
        exact ⟨⟨_, rfl⟩, .inr ⟨_, ⟨k + 1, by omega, HR.out⟩, hJx3⟩⟩
    · obtain rfl : k = T.zs.length := by omega
      gi_wp2
      go_end0
      exact ⟨⟨_, rfl⟩, .inl ⟨_, rfl, hJs⟩⟩

set_option maxHeartbeats 1000000 in
/-- ring.around: both are boxed; the function value captures the boxes. -/
theorem ringAround_any (a : Option Addr) (m c : Nat) (x : Int) (w : World) :
    Calls Tryz.prog 76 #[.slice a m c, .int .i64 x] w fun e w' => e = .returned (.func (.func 106) #[] #[.pointer (some ⟨w.heap.size, 0, none⟩), .pointer (some ⟨w.heap.size + 1, 0, none⟩)]) ∧
      w' = (w.alloc (.cells #[.slice a m c] 50)).alloc (.cells #[.int .i64 x] 3) := by
  go_enter Tryz.func76, Tryz.ntmps76
  go_wp2
  go_ret
  exact ⟨rfl, rfl⟩

theorem ringAround_stops (n : Nat) (hn : 1 ≤ n) (B1 B2 g lo hi h : Nat) (T : Tab) (l1 : 1 ≤ T.zs.length) (l2 : T.zs.length ≤ 16) (hh : h < T.zs.length) (w : World) (hz : hi ≤ w.heap.size)
    (hB1 : w.cell? ⟨B1, 0, none⟩ = some (.slice (some ⟨g, 0, none⟩) T.zs.length T.zs.length)) (hB2 : w.cell? ⟨B2, 0, none⟩ = some (.int .i64 h)) (hR : RingAt w g T)
    (b1 : lo ≤ B1) (b1' : B1 < hi) (b2 : lo ≤ B2) (b2' : B2 < hi) (hg : lo ≤ g) (hg' : g < hi) :
    SeqStopsK Fence.wide n Tryz.prog 106 #[.pointer (some ⟨B1, 0, none⟩), .pointer (some ⟨B2, 0, none⟩)] (encS T h) (KeepRange lo hi) (fun ys => ys = List.range T.zs.length) (fun pre => ∃ k, k ≤ T.zs.length ∧ List.range k = pre) T.zs.length w := fun l J Jx W hW _ _ hY h0 =>
  around1_in n hn l B1 B2 g lo hi h T l1 l2 hh J Jx W hY ((hW.cell (p := ⟨B1, 0, none⟩) (by show B1 < _; omega)).trans hB1) ((hW.cell (p := ⟨B2, 0, none⟩) (by show B2 < _; omega)).trans hB2) (hR.below hW (by omega)) b1 b1' b2 b2' hg hg' h0

end Go.Proofs.YtblkafmamnimjaaGreatDoor

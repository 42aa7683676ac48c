/-
  The iterator around a ring, where the caller's round writes some blocks and keeps others.
-/
import Derived.Test.YtblkafmamnimjaaGreatDoorAround
namespace Go.Proofs.YtblkafmamnimjaaGreatDoor
open Go.RowKit Go.Shelf
attribute [local go_sem] Oper.semAt_some

/-- The blocks of a set lie as they lay. -/
def KeepS (S : Nat → Prop) (A B : World) : Prop := A.heap.size ≤ B.heap.size ∧ ∀ k, S k → B.heap[k]? = A.heap[k]?
theorem KeepS.refl (S : Nat → Prop) (A : World) : KeepS S A A := ⟨Nat.le_refl _, fun _ _ => rfl⟩
theorem KeepS.trans {S : Nat → Prop} {A B C : World} (h : KeepS S A B) (k : KeepS S B C) : KeepS S A C := ⟨Nat.le_trans h.1 k.1, fun i h1 => (k.2 i h1).trans (h.2 i h1)⟩
theorem KeepS.below {S : Nat → Prop} {A B C : World} {m : Nat} (h : KeepS S A B) (hS : ∀ k, S k → k < m) (hm : m ≤ A.heap.size) (hb : Below B.heap.size B C) : KeepS S A C := h.trans ⟨hb.size, fun k h1 => hb.block k (by have := h.1; have := hS k h1; omega)⟩
theorem KeepS.set {S : Nat → Prop} {A B : World} (h : KeepS S A B) {p : Addr} (hp : ¬ S p.block) (v : Value) : KeepS S A (B.setCell p v) :=
  h.trans ⟨by simp [World.setCell], fun k h1 => Below.heap_setCell B p v k (fun e => hp (e ▸ h1))⟩
theorem KeepS.cell {S : Nat → Prop} {A B : World} (h : KeepS S A B) {b o : Nat} {v : Value} (h1 : S b) (hc : A.cell? ⟨b, o, none⟩ = some v) : B.cell? ⟨b, o, none⟩ = some v :=
  (World.cell?_of_block (a := ⟨b, o, none⟩) (h.2 b h1)).trans hc
theorem KeepS.ring {S : Nat → Prop} {A B : World} (h : KeepS S A B) {g : Nat} {T : Tab} (h1 : S g) (hR : RingAt A g T) : RingAt B g T := fun i hi' =>
  ⟨h.cell h1 (hR i hi').1, h.cell h1 (hR i hi').2⟩
theorem keepS_put {S : Nat → Prop} {W : World} {l : Nat} {o : Obj} (h : ¬ S l) : KeepS S W (W.putObj l o) :=
  ⟨by simp, fun k hk => by
    have : l ≠ k := fun e => h (e ▸ hk)
    simp [World.putObj, Array.getElem?_setIfInBounds, this]⟩

set_option maxRecDepth 100000 in
set_option maxHeartbeats 2000000 in
theorem around1S_in (n : Nat) (hn : 1 ≤ n) (S : Nat → Prop) (l B1 B2 g h : Nat) (T : Tab) (l1 : 1 ≤ T.zs.length) (l2 : T.zs.length ≤ 16) (hh : h < T.zs.length) (J Jx : List Nat → World → Prop) (W : World)
    (hY : ∀ pre x W1, J pre W1 → pre.length < T.zs.length → YieldAt Fence.wide (n - 1) Tryz.prog l (encS T h x) W1 fun e W' =>
      (e = .returned (.bool true) ∧ J (pre ++ [x]) W' ∧ KeepS S W1 W') ∨ (e = .returned (.bool false) ∧ Jx (pre ++ [x]) W'))
    (hB1 : W.cell? ⟨B1, 0, none⟩ = some (.slice (some ⟨g, 0, none⟩) T.zs.length T.zs.length)) (hB2 : W.cell? ⟨B2, 0, none⟩ = some (.int .i64 h)) (hR : RingAt W g T)
    (b1 : S B1) (b2 : S B2) (hg : S g) (h0 : J [] W) :
    CallsIn Fence.wide n Tryz.prog 106 #[.func (.yield l) #[] #[], .pointer (some ⟨B1, 0, none⟩), .pointer (some ⟨B2, 0, none⟩)] W fun e W' => (∃ v, e = .returned v) ∧
      ((∃ ys, ys = List.range T.zs.length ∧ J ys W') ∨ (∃ pre, (∃ k, k ≤ T.zs.length ∧ List.range k = pre) ∧ Jx pre W')) := by
  refine callsIn_of_wp Tryz.func106 rfl trivial ?_ rfl
  simp only [Tryz.ntmps106, List.size_toArray, List.length_cons, List.length_nil, Nat.reduceAdd, Nat.reduceSub, Array.replicate_succ, Array.replicate_zero, List.push_toArray, List.append_toArray, List.nil_append, List.cons_append]
  have R0 := Lib.hid hR
  clear hR
  gi_wp2
  gi_loopw [8] (fun i wr => ∃ k : Nat, k ≤ T.zs.length ∧ i = .int .i64 k ∧ J (List.range k) wr ∧ KeepS S W wr)
    (fun i _ => T.zs.length - (intOf i).toNat)
  case atStart => exact ⟨0, Nat.zero_le _, rfl, h0, KeepS.refl _ _⟩
  case round =>
    obtain ⟨k, hk, rfl, hJs, hkr⟩ := hrel
    by_cases hlt : k < T.zs.length
    · have c1 := hkr.cell b1 hB1
      have c2 := hkr.cell b2 hB2
      have hkl := stepS_lt l1 h k
      obtain ⟨r0, r1⟩ := hkr.ring hg R0.out _ hkl
      obtain ⟨fn, tmps, assign, body, hy, hRd⟩ := hY _ k _ hJs (by simpa using hlt)
      dsimp only [encS] at hy
      have HS := Lib.hid (step_cast' T h k)
      have HR := Lib.hid (List.range_succ (n := k))
      have HK := Lib.hid hkr
      clear hkr hB1 hB2 hJs
      generalize stepS T h k = kk at hkl r0 r1 hy HS
      generalize nth T.zs kk = x at r0 r1 hy
      gi_wp2_with (refine ⟨trivial, ?_⟩; gi_at_call 88; refine (callsIn_wide.2 (wrap_any _ _ _ _ _ l1 l2 (by omega) (by omega))).mono ?_; rintro e w' ⟨rfl, rfl⟩; rw [HS.out])
      refine hRd.mono ?_
      rintro e W3 (⟨rfl, hJ3, hk3⟩ | ⟨rfl, hJx3⟩)
      · have B3 := Lib.hid (HK.out.trans hk3)
        gi_wp2
        go_roundw
        case rel => exact ⟨k + 1, by omega, by go_num, by rw [HR.out]; exact hJ3, B3.out⟩
        case measure => simp [intOf]; omega
      · gi_wp2
        refine bodyPost_ret (results_none rfl _ _ _) rfl ?_
        exact ⟨⟨_, rfl⟩, .inr ⟨_, ⟨k + 1, by omega, HR.out⟩, hJx3⟩⟩
    · obtain rfl : k = T.zs.length := by omega
      gi_wp2
      go_end0
      exact ⟨⟨_, rfl⟩, .inl ⟨_, rfl, hJs⟩⟩

theorem ringAroundS_stops (n : Nat) (hn : 1 ≤ n) (S : Nat → Prop) (B1 B2 g h : Nat) (T : Tab) (l1 : 1 ≤ T.zs.length) (l2 : T.zs.length ≤ 16) (hh : h < T.zs.length) (w : World)
    (hB1 : w.cell? ⟨B1, 0, none⟩ = some (.slice (some ⟨g, 0, none⟩) T.zs.length T.zs.length)) (hB2 : w.cell? ⟨B2, 0, none⟩ = some (.int .i64 h)) (hR : RingAt w g T)
    (b1 : S B1) (b2 : S B2) (hg : S g) (z1 : B1 < w.heap.size) (z2 : B2 < w.heap.size) (zg : g < w.heap.size) :
    SeqStopsK Fence.wide n Tryz.prog 106 #[.pointer (some ⟨B1, 0, none⟩), .pointer (some ⟨B2, 0, none⟩)] (encS T h) (KeepS S) (fun ys => ys = List.range T.zs.length) (fun pre => ∃ k, k ≤ T.zs.length ∧ List.range k = pre) T.zs.length w := fun l J Jx W hW _ _ hY h0 =>
  around1S_in n hn S l B1 B2 g h T l1 l2 hh J Jx W hY ((hW.cell (p := ⟨B1, 0, none⟩) z1).trans hB1) ((hW.cell (p := ⟨B2, 0, none⟩) z2).trans hB2) (hR.below hW zg) b1 b2 hg h0

/-- A frame's marks of loops that are over: each block is shut in its turn; what holds of the world behind all of them is told by J. -/
theorem leaves_marks {F : Fence} {n : Nat} {P : Program} {fn : Func} {tmps : Array Value} {R : Ending → World → Prop} {J : World → Prop} (hres : ∀ W, J W → LeavesIn F n P fn tmps R [] .returning W) :
    ∀ (ds : List Nat) (W : World), ds.Nodup → (∀ D, D ∈ ds → W.heap[D]? = some (.deferred (some []))) → (∀ D W, D ∈ ds → J W → W.heap[D]? = some (.deferred (some [])) → J (W.putObj D (.deferred none))) → J W →
      LeavesInM F n P fn tmps R (ds.map fun D => { target := .collected D, args := #[] }) .returning W := by
  intro ds
  induction ds with
  | nil => exact fun W _ _ _ hJ => hres W hJ
  | cons D ds ih =>
    intro W hn hD hst hJ
    obtain ⟨hn1, hn2⟩ := List.nodup_cons.1 hn
    have h0 := hD D (List.mem_cons_self ..)
    refine ⟨by simp, .inl ⟨_, _, rfl, run_takeDeferred h0, ih _ hn2 (fun E hE => ?_) (fun E W hE => hst E W (List.mem_cons_of_mem _ hE)) (hst D W (List.mem_cons_self ..) hJ h0)⟩⟩
    have hne : D ≠ E := fun e => hn1 (e ▸ hE)
    exact (World.putObj_heap_other (fun e => hne (by omega))).trans (hD E (List.mem_cons_of_mem _ hE))

end Go.Proofs.YtblkafmamnimjaaGreatDoor

/-
  Fair tables: several texts as one.
-/
import Derived.Test.YtkdkdmjhhgllgaaGreatDoorLow
import Derived.Test.YtkdkdmjhhgllgaaGreatDoorMath
import Derived.Test.YtkdkdmjhhgllgaaGreatDoorBase
import Derived.Shelf.RegionOpen
import Derived.Test.YtkdkdmjhhgllgaaGreatDoorFinds2All
import Derived.Test.YtkdkdmjhhgllgaaGreatDoorPick
import Derived.WalkKit
import Derived.LaidEql
import Derived.Stop.Asserts
import Derived.RowKitTokens
import Derived.WideLaws
import Derived.BigQuiet
section
namespace Go.Proofs.YtkdkdmjhhgllgaaGreatDoor
open Go.RowKit Go.Shelf
attribute [local go_sem] Oper.semAt_some

/-- The blocks of a range lie as they lay. -/
def KeepRange (lo hi : Nat) (A B : World) : Prop := A.heap.size ≤ B.heap.size ∧ ∀ k, lo ≤ k → k < hi → B.heap[k]? = A.heap[k]?
theorem KeepRange.refl (lo hi : Nat) (A : World) : KeepRange lo hi A A := ⟨Nat.le_refl _, fun _ _ _ => rfl⟩
theorem KeepRange.trans {lo hi : Nat} {A B C : World} (h : KeepRange lo hi A B) (k : KeepRange lo hi B C) : KeepRange lo hi A C := ⟨Nat.le_trans h.1 k.1, fun i h1 h2 => (k.2 i h1 h2).trans (h.2 i h1 h2)⟩
theorem KeepRange.below {lo hi : Nat} {A B C : World} (h : KeepRange lo hi A B) (hb : Below B.heap.size B C) (hh : hi ≤ A.heap.size) : KeepRange lo hi A C := h.trans ⟨hb.size, fun k _ h2 => hb.block k (by have := h.1; omega)⟩
theorem KeepRange.set {lo hi : Nat} {A B : World} (h : KeepRange lo hi A B) {p : Addr} (hp : p.block < lo ∨ hi ≤ p.block) (v : Value) : KeepRange lo hi A (B.setCell p v) :=
  h.trans ⟨by simp [World.setCell], fun k h1 h2 => Below.heap_setCell B p v k (by omega)⟩
theorem KeepRange.cell {lo hi : Nat} {A B : World} (h : KeepRange lo hi A B) {b o : Nat} {v : Value} (h1 : lo ≤ b) (h2 : b < hi) (hc : A.cell? ⟨b, o, none⟩ = some v) : B.cell? ⟨b, o, none⟩ = some v :=
  (World.cell?_of_block (a := ⟨b, o, none⟩) (h.2 b h1 h2)).trans hc
theorem KeepRange.ring {lo hi : Nat} {A B : World} (h : KeepRange lo hi A B) {g : Nat} {T : Tab} (h1 : lo ≤ g) (h2 : g < hi) (hR : RingAt A g T) : RingAt B g T := fun i hi' =>
  ⟨h.cell h1 h2 (hR i hi').1, h.cell h1 h2 (hR i hi').2⟩
theorem keepRange_b {lo hi : Nat} {w : World} (hw : hi ≤ w.heap.size) (W : World) (l : Nat) (o o' : Obj) (hl : w.heap.size ≤ l) (_ : W.heap[l]? = some o) (_ : o.isCells = false) (_ : o.isWalk = false) : KeepRange lo hi W (W.putObj l o') :=
  ⟨by simp, fun _ _ h2 => keep_put' (by omega)⟩
where
  keep_put' {W : World} {g l : Nat} {o : Obj} (h : g < l) : (W.putObj l o).heap[g]? = W.heap[g]? := by
    simp [World.putObj, Array.getElem?_setIfInBounds]
    intro e; omega

/-- What one step yields. -/
abbrev encS (T : Tab) (h : Nat) (i : Nat) : Array Value := #[.int .i64 (stepS T h i), .agg #[.int .i64 (nth T.zs (stepS T h i)), .int .i64 (homeT T (nth T.zs (stepS T h i)))]]

/-- One step of a way as the program counts it. -/
theorem step_cast' (T : Tab) (h j : Nat) : ((h : Int) + (j : Int)) % (T.zs.length : Int) = (stepS T h j : Int) := by
  simp [stepS]

set_option maxRecDepth 100000 in
set_option maxHeartbeats 2000000 in
theorem around1_in (n : Nat) (hn : 1 ≤ n) (l B1 B2 g lo hi h : Nat) (T : Tab) (l1 : 1 ≤ T.zs.length) (l2 : T.zs.length ≤ 16) (hh : h < T.zs.length) (J Jx : List Nat → World → Prop) (W : World)
    (hY : ∀ pre x W1, J pre W1 → pre.length < T.zs.length → YieldAt Fence.wide (n - 1) Tryz.prog l (encS T h x) W1 fun e W' =>
      (e = .returned (.bool true) ∧ J (pre ++ [x]) W' ∧ KeepRange lo hi W1 W') ∨ (e = .returned (.bool false) ∧ Jx (pre ++ [x]) W'))
    (hB1 : W.cell? ⟨B1, 0, none⟩ = some (.slice (some ⟨g, 0, none⟩) T.zs.length T.zs.length)) (hB2 : W.cell? ⟨B2, 0, none⟩ = some (.int .i64 h)) (hR : RingAt W g T)
    (b1 : lo ≤ B1) (b1' : B1 < hi) (b2 : lo ≤ B2) (b2' : B2 < hi) (hg : lo ≤ g) (hg' : g < hi) (h0 : J [] W) :
    CallsIn Fence.wide n Tryz.prog 93 #[.func (.yield l) #[] #[], .pointer (some ⟨B1, 0, none⟩), .pointer (some ⟨B2, 0, none⟩)] W fun e W' => (∃ v, e = .returned v) ∧
      ((∃ ys, ys = List.range T.zs.length ∧ J ys W') ∨ (∃ pre, (∃ k, k ≤ T.zs.length ∧ List.range k = pre) ∧ Jx pre W')) := by
  refine callsIn_of_wp Tryz.func93 rfl trivial ?_ rfl
  simp only [Tryz.ntmps93, List.size_toArray, List.length_cons, List.length_nil, Nat.reduceAdd, Nat.reduceSub, Array.replicate_succ, Array.replicate_zero, List.push_toArray, List.append_toArray, List.nil_append, List.cons_append]
  have R0 := Lib.hid hR
  clear hR
  gi_wp2
  gi_loopw [8] (fun i wr => ∃ k : Nat, k ≤ T.zs.length ∧ i = .int .i64 k ∧ J (List.range k) wr ∧ KeepRange lo hi W wr)
    (fun i _ => T.zs.length - (intOf i).toNat)
  case atStart => exact ⟨0, Nat.zero_le _, rfl, h0, KeepRange.refl _ _ _⟩
  case round =>
    obtain ⟨k, hk, rfl, hJs, hkr⟩ := hrel
    by_cases hlt : k < T.zs.length
    · have c1 := hkr.cell b1 b1' hB1
      have c2 := hkr.cell b2 b2' hB2
      have hkl := stepS_lt l1 h k
      obtain ⟨r0, r1⟩ := hkr.ring hg hg' R0.out _ hkl
      obtain ⟨fn, tmps, assign, body, hy, hRd⟩ := hY _ k _ hJs (by simpa using hlt)
      dsimp only [encS] at hy
      have HS := Lib.hid (step_cast' T h k)
      have HR := Lib.hid (List.range_succ (n := k))
      have HK := Lib.hid hkr
      clear hkr hB1 hB2 hJs
      generalize stepS T h k = kk at hkl r0 r1 hy HS
      generalize nth T.zs kk = x at r0 r1 hy
      gi_wp2_with (refine ⟨trivial, ?_⟩; gi_at_call 94; refine (callsIn_wide.2 (wrap_any _ _ _ _ _ l1 l2 (by omega) (by omega))).mono ?_; rintro e w' ⟨rfl, rfl⟩; rw [HS.out])
      refine hRd.mono ?_
      rintro e W3 (⟨rfl, hJ3, hk3⟩ | ⟨rfl, hJx3⟩)
      · have B3 := Lib.hid (HK.out.trans hk3)
        gi_wp2
        go_roundw
        case rel => exact ⟨k + 1, by omega, by go_num, by rw [HR.out]; exact hJ3, B3.out⟩
        case measure => simp [intOf]; omega
      · gi_wp2
        refine bodyPost_ret (results_none rfl _ _ _) rfl ?_
        exact ⟨⟨_, rfl⟩, .inr ⟨_, ⟨k + 1, by omega, HR.out⟩, hJx3⟩⟩
    · obtain rfl : k = T.zs.length := by omega
      gi_wp2
      go_end0
      exact ⟨⟨_, rfl⟩, .inl ⟨_, rfl, hJs⟩⟩

set_option maxHeartbeats 1000000 in
/-- ring.around: both are boxed; the function value captures the boxes. -/
theorem ringAround_any (a : Option Addr) (m c : Nat) (x : Int) (w : World) :
    Calls Tryz.prog 64 #[.slice a m c, .int .i64 x] w fun e w' => e = .returned (.func (.func 93) #[] #[.pointer (some ⟨w.heap.size, 0, none⟩), .pointer (some ⟨w.heap.size + 1, 0, none⟩)]) ∧
      w' = (w.alloc (.cells #[.slice a m c] 70)).alloc (.cells #[.int .i64 x] 3) := by
  go_enter Tryz.func64, Tryz.ntmps64
  go_wp2
  go_ret
  exact ⟨rfl, rfl⟩

theorem ringAround_stops (n : Nat) (hn : 1 ≤ n) (B1 B2 g lo hi h : Nat) (T : Tab) (l1 : 1 ≤ T.zs.length) (l2 : T.zs.length ≤ 16) (hh : h < T.zs.length) (w : World) (hz : hi ≤ w.heap.size)
    (hB1 : w.cell? ⟨B1, 0, none⟩ = some (.slice (some ⟨g, 0, none⟩) T.zs.length T.zs.length)) (hB2 : w.cell? ⟨B2, 0, none⟩ = some (.int .i64 h)) (hR : RingAt w g T)
    (b1 : lo ≤ B1) (b1' : B1 < hi) (b2 : lo ≤ B2) (b2' : B2 < hi) (hg : lo ≤ g) (hg' : g < hi) :
    SeqStopsK Fence.wide n Tryz.prog 93 #[.pointer (some ⟨B1, 0, none⟩), .pointer (some ⟨B2, 0, none⟩)] (encS T h) (KeepRange lo hi) (fun ys => ys = List.range T.zs.length) (fun pre => ∃ k, k ≤ T.zs.length ∧ List.range k = pre) T.zs.length w := fun l J Jx W hW _ _ hY h0 =>
  around1_in n hn l B1 B2 g lo hi h T l1 l2 hh J Jx W hY ((hW.cell (p := ⟨B1, 0, none⟩) (by show B1 < _; omega)).trans hB1) ((hW.cell (p := ⟨B2, 0, none⟩) (by show B2 < _; omega)).trans hB2) (hR.below hW (by omega)) b1 b1' b2 b2' hg hg' h0

end Go.Proofs.YtkdkdmjhhgllgaaGreatDoor
end

section
namespace Go.Proofs.YtkdkdmjhhgllgaaGreatDoor
open Go.RowKit Go.Shelf
attribute [local go_sem] Oper.semAt_some

/-- The blocks of a set lie as they lay. -/
def KeepS (S : Nat → Prop) (A B : World) : Prop := A.heap.size ≤ B.heap.size ∧ ∀ k, S k → B.heap[k]? = A.heap[k]?
theorem KeepS.refl (S : Nat → Prop) (A : World) : KeepS S A A := ⟨Nat.le_refl _, fun _ _ => rfl⟩
theorem KeepS.trans {S : Nat → Prop} {A B C : World} (h : KeepS S A B) (k : KeepS S B C) : KeepS S A C := ⟨Nat.le_trans h.1 k.1, fun i h1 => (k.2 i h1).trans (h.2 i h1)⟩
theorem KeepS.below {S : Nat → Prop} {A B C : World} {m : Nat} (h : KeepS S A B) (hS : ∀ k, S k → k < m) (hm : m ≤ A.heap.size) (hb : Below B.heap.size B C) : KeepS S A C := h.trans ⟨hb.size, fun k h1 => hb.block k (by have := h.1; have := hS k h1; omega)⟩
theorem KeepS.set {S : Nat → Prop} {A B : World} (h : KeepS S A B) {p : Addr} (hp : ¬ S p.block) (v : Value) : KeepS S A (B.setCell p v) :=
  h.trans ⟨by simp [World.setCell], fun k h1 => Below.heap_setCell B p v k (fun e => hp (e ▸ h1))⟩
theorem KeepS.cell {S : Nat → Prop} {A B : World} (h : KeepS S A B) {b o : Nat} {v : Value} (h1 : S b) (hc : A.cell? ⟨b, o, none⟩ = some v) : B.cell? ⟨b, o, none⟩ = some v :=
  (World.cell?_of_block (a := ⟨b, o, none⟩) (h.2 b h1)).trans hc
theorem KeepS.ring {S : Nat → Prop} {A B : World} (h : KeepS S A B) {g : Nat} {T : Tab} (h1 : S g) (hR : RingAt A g T) : RingAt B g T := fun i hi' =>
  ⟨h.cell h1 (hR i hi').1, h.cell h1 (hR i hi').2⟩
theorem keepS_put {S : Nat → Prop} {W : World} {l : Nat} {o : Obj} (h : ¬ S l) : KeepS S W (W.putObj l o) :=
  ⟨by simp, fun k hk => by
    have : l ≠ k := fun e => h (e ▸ hk)
    simp [World.putObj, Array.getElem?_setIfInBounds, this]⟩

set_option maxRecDepth 100000 in
set_option maxHeartbeats 2000000 in
theorem around1S_in (n : Nat) (hn : 1 ≤ n) (S : Nat → Prop) (l B1 B2 g h : Nat) (T : Tab) (l1 : 1 ≤ T.zs.length) (l2 : T.zs.length ≤ 16) (hh : h < T.zs.length) (J Jx : List Nat → World → Prop) (W : World)
    (hY : ∀ pre x W1, J pre W1 → pre.length < T.zs.length → YieldAt Fence.wide (n - 1) Tryz.prog l (encS T h x) W1 fun e W' =>
      (e = .returned (.bool true) ∧ J (pre ++ [x]) W' ∧ KeepS S W1 W') ∨ (e = .returned (.bool false) ∧ Jx (pre ++ [x]) W'))
    (hB1 : W.cell? ⟨B1, 0, none⟩ = some (.slice (some ⟨g, 0, none⟩) T.zs.length T.zs.length)) (hB2 : W.cell? ⟨B2, 0, none⟩ = some (.int .i64 h)) (hR : RingAt W g T)
    (b1 : S B1) (b2 : S B2) (hg : S g) (h0 : J [] W) :
    CallsIn Fence.wide n Tryz.prog 93 #[.func (.yield l) #[] #[], .pointer (some ⟨B1, 0, none⟩), .pointer (some ⟨B2, 0, none⟩)] W fun e W' => (∃ v, e = .returned v) ∧
      ((∃ ys, ys = List.range T.zs.length ∧ J ys W') ∨ (∃ pre, (∃ k, k ≤ T.zs.length ∧ List.range k = pre) ∧ Jx pre W')) := by
  refine callsIn_of_wp Tryz.func93 rfl trivial ?_ rfl
  simp only [Tryz.ntmps93, List.size_toArray, List.length_cons, List.length_nil, Nat.reduceAdd, Nat.reduceSub, Array.replicate_succ, Array.replicate_zero, List.push_toArray, List.append_toArray, List.nil_append, List.cons_append]
  have R0 := Lib.hid hR
  clear hR
  gi_wp2
  gi_loopw [8] (fun i wr => ∃ k : Nat, k ≤ T.zs.length ∧ i = .int .i64 k ∧ J (List.range k) wr ∧ KeepS S W wr)
    (fun i _ => T.zs.length - (intOf i).toNat)
  case atStart => exact ⟨0, Nat.zero_le _, rfl, h0, KeepS.refl _ _⟩
  case round =>
    obtain ⟨k, hk, rfl, hJs, hkr⟩ := hrel
    by_cases hlt : k < T.zs.length
    · have c1 := hkr.cell b1 hB1
      have c2 := hkr.cell b2 hB2
      have hkl := stepS_lt l1 h k
      obtain ⟨r0, r1⟩ := hkr.ring hg R0.out _ hkl
      obtain ⟨fn, tmps, assign, body, hy, hRd⟩ := hY _ k _ hJs (by simpa using hlt)
      dsimp only [encS] at hy
      have HS := Lib.hid (step_cast' T h k)
      have HR := Lib.hid (List.range_succ (n := k))
      have HK := Lib.hid hkr
      clear hkr hB1 hB2 hJs
      generalize stepS T h k = kk at hkl r0 r1 hy HS
      generalize nth T.zs kk = x at r0 r1 hy
      gi_wp2_with (refine ⟨trivial, ?_⟩; gi_at_call 94; refine (callsIn_wide.2 (wrap_any _ _ _ _ _ l1 l2 (by omega) (by omega))).mono ?_; rintro e w' ⟨rfl, rfl⟩; rw [HS.out])
      refine hRd.mono ?_
      rintro e W3 (⟨rfl, hJ3, hk3⟩ | ⟨rfl, hJx3⟩)
      · have B3 := Lib.hid (HK.out.trans hk3)
        gi_wp2
        go_roundw
        case rel => exact ⟨k + 1, by omega, by go_num, by rw [HR.out]; exact hJ3, B3.out⟩
        case measure => simp [intOf]; omega
      · gi_wp2
        refine bodyPost_ret (results_none rfl _ _ _) rfl ?_
        exact ⟨⟨_, rfl⟩, .inr ⟨_, ⟨k + 1, by omega, HR.out⟩, hJx3⟩⟩
    · obtain rfl : k = T.zs.length := by omega
      gi_wp2
      go_end0
      exact ⟨⟨_, rfl⟩, .inl ⟨_, rfl, hJs⟩⟩

theorem ringAroundS_stops (n : Nat) (hn : 1 ≤ n) (S : Nat → Prop) (B1 B2 g h : Nat) (T : Tab) (l1 : 1 ≤ T.zs.length) (l2 : T.zs.length ≤ 16) (hh : h < T.zs.length) (w : World)
    (hB1 : w.cell? ⟨B1, 0, none⟩ = some (.slice (some ⟨g, 0, none⟩) T.zs.length T.zs.length)) (hB2 : w.cell? ⟨B2, 0, none⟩ = some (.int .i64 h)) (hR : RingAt w g T)
    (b1 : S B1) (b2 : S B2) (hg : S g) (z1 : B1 < w.heap.size) (z2 : B2 < w.heap.size) (zg : g < w.heap.size) :
    SeqStopsK Fence.wide n Tryz.prog 93 #[.pointer (some ⟨B1, 0, none⟩), .pointer (some ⟨B2, 0, none⟩)] (encS T h) (KeepS S) (fun ys => ys = List.range T.zs.length) (fun pre => ∃ k, k ≤ T.zs.length ∧ List.range k = pre) T.zs.length w := fun l J Jx W hW _ _ hY h0 =>
  around1S_in n hn S l B1 B2 g h T l1 l2 hh J Jx W hY ((hW.cell (p := ⟨B1, 0, none⟩) z1).trans hB1) ((hW.cell (p := ⟨B2, 0, none⟩) z2).trans hB2) (hR.below hW zg) b1 b2 hg h0

/-- A frame's marks of loops that are over: each block is shut in its turn; what holds of the world behind all of them is told by J. -/
theorem leaves_marks {F : Fence} {n : Nat} {P : Program} {fn : Func} {tmps : Array Value} {R : Ending → World → Prop} {J : World → Prop} (hres : ∀ W, J W → LeavesIn F n P fn tmps R [] .returning W) :
    ∀ (ds : List Nat) (W : World), ds.Nodup → (∀ D, D ∈ ds → W.heap[D]? = some (.deferred (some []))) → (∀ D W, D ∈ ds → J W → W.heap[D]? = some (.deferred (some [])) → J (W.putObj D (.deferred none))) → J W →
      LeavesInM F n P fn tmps R (ds.map fun D => { target := .collected D, args := #[] }) .returning W := by
  intro ds
  induction ds with
  | nil => exact fun W _ _ _ hJ => hres W hJ
  | cons D ds ih =>
    intro W hn hD hst hJ
    obtain ⟨hn1, hn2⟩ := List.nodup_cons.1 hn
    have h0 := hD D (List.mem_cons_self ..)
    refine ⟨by simp, .inl ⟨_, _, rfl, run_takeDeferred h0, ih _ hn2 (fun E hE => ?_) (fun E W hE => hst E W (List.mem_cons_of_mem _ hE)) (hst D W (List.mem_cons_self ..) hJ h0)⟩⟩
    have hne : D ≠ E := fun e => hn1 (e ▸ hE)
    exact (World.putObj_heap_other (fun e => hne (by omega))).trans (hD E (List.mem_cons_of_mem _ hE))

end Go.Proofs.YtkdkdmjhhgllgaaGreatDoor
end

section
namespace Go.Proofs.YtkdkdmjhhgllgaaGreatDoor
open Go.RowKit Go.Shelf
attribute [local go_sem] Oper.semAt_some

/-- What a search answers: how many slots it has visited, a place, and an error where it has found the key. -/
def LookRes (T : Tab) (key : Int) (w : World) (e : Ending) (w' : World) : Prop :=
  ∃ (pl : Int) (ev : Value), e = .returned (.tuple #[.agg #[.int .i64 (visN T key (homeN T key)), .int .i64 pl], ev]) ∧
    ((∃ k : Nat, findI T key = (k : Int) ∧ ev = .iface 65 (.agg #[.int .i64 key, .int .i64 k])) ∨ (findI T key = -1 ∧ ev = .nilIface ∧ pl = firstLow T.zs (wayOf T key))) ∧ Below w.heap.size w w'

/-- Items that lie below B are kept by what a loop over an iterator does besides its body. -/
theorem st_own {β : Type} {B : Nat} {w0 : World} {items : β → List It} {Pp : β → Prop} (hi : ∀ s, ∀ i ∈ items s, i.hi ≤ B) (h0 : w0.heap.size ≤ B) : OwnFrom B (fun s W => (St w0 W (items s) ∧ B ≤ W.heap.size) ∧ Pp s) :=
  fun s A B' row hs hg hr => ⟨⟨hs.1.1.grown2 hg (fun k e => ⟨Nat.le_trans h0 (hr k e).1, fun i h => .inr (Nat.le_trans (hi s i h) (hr k e).1)⟩), Nat.le_trans hs.1.2 hg.size⟩, hs.2⟩
theorem st_put {w0 W : World} {l : List It} {B D : Nat} {o : Obj} (h : St w0 W l) (hi : ∀ i ∈ l, i.hi ≤ B) (h0 : w0.heap.size ≤ B) (hD : B ≤ D) : St w0 (W.putObj D o) l :=
  h.grown2 (grownBy_putObj' W D o) fun k e => by cases e; exact ⟨Nat.le_trans h0 hD, fun i h => .inr (Nat.le_trans (hi i h) hD)⟩
/-- A block of cells is kept likewise. -/
theorem block_own {β : Type} {B : Nat} {P : β → Nat → Prop} {c : β → Array Value} {t : TypeId} {Q : β → Nat → Prop} : OwnFrom B (fun s W => ∃ b, P s b ∧ W.heap[b]? = some (.cells (c s) t (0, 0)) ∧ Q s b) :=
  fun s A B' row ⟨b, h1, h2, h3⟩ hg hr => ⟨b, h1, (hg.block b (Array.getElem?_eq_some_iff.1 h2).1 (fun e => by obtain ⟨_, o, ho, hc⟩ := hr _ e.symm; rw [h2] at ho; cases ho; cases hc)).trans h2, h3⟩

/-- What the search's variables hold when some steps have been taken. -/
abbrev lookIt (T : Tab) (key : Int) (hn wz : Nat) (pre : List Nat) : List It :=
  [It.box (wz + 1 + 1 + 1 + 1) #[.int .i64 pre.length, .int .i64 (lookPl T hn pre)] 58, It.box (wz + 1 + 1 + 1) #[.nilIface] 60, It.box (wz + 1 + 1) #[.int .i64 0, .int .i64 0] 58, It.box (wz + 1) #[.int .i64 key] 3]
/-- .. and when a key has been found. -/
abbrev foundIt (key : Int) (wz : Nat) (pre : List Nat) (pl slot : Int) : List It :=
  [It.box (wz + 1 + 1 + 1) #[.iface 65 (.agg #[.int .i64 key, .int .i64 slot])] 60, It.box (wz + 1 + 1) #[.int .i64 pre.length, .int .i64 pl] 58]
def LookOut (T : Tab) (key : Int) (hn : Nat) (w : World) (B : Nat) (c : Code) (pre : List Nat) (W : World) : Prop :=
  (∃ pre' x pl, c = .ret ∧ pre = pre' ++ [x] ∧ Free' T key hn pre' ∧ nth T.zs (stepS T hn x) = key ∧ St w W (foundIt key w.heap.size pre pl (stepS T hn x)) ∧ B ≤ W.heap.size) ∨
  (∃ pre' x, c = .exit 0 ∧ pre = pre' ++ [x] ∧ Free' T key hn pre' ∧ nth T.zs (stepS T hn x) = -1 ∧ St w W (lookIt T key hn w.heap.size pre) ∧ B ≤ W.heap.size)
theorem LookOut.own {T : Tab} {key : Int} {hn : Nat} {w : World} {B : Nat} (hB : w.heap.size + 5 ≤ B) (c : Code) : OwnFrom B (LookOut T key hn w B c) := by
  rintro s A B' row (⟨pre', x, pl, h1, h2, h3, h4, h5, h6⟩ | ⟨pre', x, h1, h2, h3, h4, h5, h6⟩) hg hr
  · exact .inl ⟨pre', x, pl, h1, h2, h3, h4, h5.grown2 hg (fun k e => ⟨by have := (hr k e).1; omega, fun i hi => .inr (by
      have := (hr k e).1
      simp only [List.mem_cons, List.not_mem_nil, or_false] at hi
      rcases hi with rfl | rfl <;> simp [It.box] <;> omega)⟩), Nat.le_trans h6 hg.size⟩
  · exact .inr ⟨pre', x, h1, h2, h3, h4, h5.grown2 hg (fun k e => ⟨by have := (hr k e).1; omega, fun i hi => .inr (by
      have := (hr k e).1
      simp only [List.mem_cons, List.not_mem_nil, or_false] at hi
      rcases hi with rfl | rfl | rfl | rfl <;> simp [It.box] <;> omega)⟩), Nat.le_trans h6 hg.size⟩

theorem grownBy_setAt (W : World) (p : Addr) (v : Value) : W.grownBy (W.setCell p v) (some p.block) :=
  ⟨rfl, rfl, rfl, by simp [World.setCell], fun k _ hne => Below.heap_setCell W p v k (fun e => hne (by rw [e]))⟩
theorem setCell_two0 {w : World} {b : Nat} {x y : Value} {t : TypeId} (h : w.heap[b]? = some (.cells #[x, y] t (0, 0))) (v : Value) : (w.setCell ⟨b, 0, none⟩ v).heap[b]? = some (.cells #[v, y] t (0, 0)) := by
  simp [World.setCell, Array.getElem?_modify, h]
theorem setCell_one0 {w : World} {b : Nat} {x : Value} {t : TypeId} (h : w.heap[b]? = some (.cells #[x] t (0, 0))) (v : Value) : (w.setCell ⟨b, 0, none⟩ v).heap[b]? = some (.cells #[v] t (0, 0)) := by
  simp [World.setCell, Array.getElem?_modify, h]
/-- One cell of a box that is an item is set. -/
theorem St.setBoxAt {w0 w : World} {l : List It} {b : Nat} {c c' : Array Value} {t : TypeId} (h : St w0 w l) (n : Nat) (hn : l[n]? = some (It.box b c t)) (o : Nat) (v : Value)
    (hc : (w.setCell ⟨b, o, none⟩ v).heap[b]? = some (.cells c' t (0, 0))) (hf : Far (It.box b c t) (l.eraseIdx n)) (hlo : w0.heap.size ≤ b) : St w0 (w.setCell ⟨b, o, none⟩ v) (l.set n (It.box b c' t)) := by
  have h0 := (h.all _ (List.mem_of_getElem? hn)).1
  have h1 : St w0 w (It.box b c t :: l.eraseIdx n) := h.turn fun i hi => by
    rcases List.mem_cons.1 hi with rfl | hi
    · exact List.mem_of_getElem? hn
    · exact List.mem_of_mem_eraseIdx hi
  refine (h1.write (i' := It.box b c' t) (grownBy_setAt w _ v) (fun k e => by cases e; exact ⟨Nat.le_refl _, Nat.lt_succ_self _⟩) hf hlo (by simpa [It.box, World.setCell] using h0) hc).turn fun i hi => ?_
  obtain ⟨k, hk⟩ := List.getElem?_of_mem hi
  rw [List.getElem?_set] at hk
  split at hk
  · split at hk
    · cases hk; exact List.mem_cons_self ..
    · cases hk
  · rename_i hne
    refine List.mem_cons_of_mem _ ?_
    rw [List.mem_eraseIdx_iff_getElem?]
    exact ⟨k, Ne.symm hne, hk⟩

theorem look_endB {T : Tab} {key : Int} {hn : Nat} {w W : World} {pre : List Nat} (S : St w W (lookIt T key hn w.heap.size pre)) (x : Nat) {m q : Int} (hm : ((pre ++ [x]).length : Int) = m) (hq : lookPl T hn (pre ++ [x]) = q) :
    St w ((W.setCell ⟨w.heap.size + 1 + 1 + 1 + 1, 0, none⟩ (.int .i64 m)).setCell ⟨w.heap.size + 1 + 1 + 1 + 1, 1, none⟩ (.int .i64 q)) (lookIt T key hn w.heap.size (pre ++ [x])) := by
  have S1 := S.setBoxAt 0 rfl 0 (.int .i64 m) (setCell_two0 (S.cells 0 rfl) _) (by simp [Far, It.box]) (by omega)
  have S2 := S1.setBoxAt 0 rfl 1 (.int .i64 q) (setCell_two (S1.cells 0 rfl) _) (by simp [Far, It.box]) (by omega)
  subst hm hq
  exact S2
theorem look_endC {T : Tab} {key : Int} {hn : Nat} {w W : World} {pre : List Nat} (S : St w W (lookIt T key hn w.heap.size pre)) (x : Nat) {m : Int} (hm : ((pre ++ [x]).length : Int) = m) (hq : lookPl T hn (pre ++ [x]) = lookPl T hn pre) :
    St w (W.setCell ⟨w.heap.size + 1 + 1 + 1 + 1, 0, none⟩ (.int .i64 m)) (lookIt T key hn w.heap.size (pre ++ [x])) := by
  have S1 := S.setBoxAt 0 rfl 0 (.int .i64 m) (setCell_two0 (S.cells 0 rfl) _) (by simp [Far, It.box]) (by omega)
  subst hm
  rw [← hq] at S1
  exact S1
theorem look_endA {T : Tab} {key : Int} {hn : Nat} {w W : World} {pre : List Nat} (S : St w W (lookIt T key hn w.heap.size pre)) (x : Nat) {m : Int} (hm : ((pre ++ [x]).length : Int) = m) (sl : Int) :
    St w ((((W.setCell ⟨w.heap.size + 1 + 1 + 1 + 1, 0, none⟩ (.int .i64 m)).setCell ⟨w.heap.size + 1 + 1, 0, none⟩ (.int .i64 m)).setCell ⟨w.heap.size + 1 + 1, 1, none⟩ (.int .i64 (lookPl T hn pre))).setCell ⟨w.heap.size + 1 + 1 + 1, 0, none⟩ (.iface 65 (.agg #[.int .i64 key, .int .i64 sl])))
      (foundIt key w.heap.size (pre ++ [x]) (lookPl T hn pre) sl) := by
  have S1 := S.setBoxAt 0 rfl 0 (.int .i64 m) (setCell_two0 (S.cells 0 rfl) _) (by simp [Far, It.box]) (by omega)
  have S2 := S1.setBoxAt 2 rfl 0 (.int .i64 m) (setCell_two0 (S1.cells 2 rfl) _) (by simp [Far, It.box]) (by omega)
  have S3 := S2.setBoxAt 2 rfl 1 (.int .i64 (lookPl T hn pre)) (setCell_two (S2.cells 2 rfl) _) (by simp [Far, It.box]) (by omega)
  have S4 := S3.setBoxAt 1 rfl 0 (.iface 65 (.agg #[.int .i64 key, .int .i64 sl])) (setCell_one0 (S3.cells 1 rfl) _) (by simp [Far, It.box]) (by omega)
  subst hm
  exact S4.turn fun i hi => by
    simp only [List.mem_cons, List.not_mem_nil, or_false] at hi
    rcases hi with rfl | rfl <;> simp

theorem look_endD {T : Tab} {key : Int} {hn : Nat} {w W : World} {pre : List Nat} (S : St w W (lookIt T key hn w.heap.size pre)) :
    St w (((W.setCell ⟨w.heap.size + 1 + 1, 0, none⟩ (.int .i64 pre.length)).setCell ⟨w.heap.size + 1 + 1, 1, none⟩ (.int .i64 (lookPl T hn pre))).setCell ⟨w.heap.size + 1 + 1 + 1, 0, none⟩ .nilIface)
      [It.box (w.heap.size + 1 + 1 + 1) #[.nilIface] 60, It.box (w.heap.size + 1 + 1) #[.int .i64 pre.length, .int .i64 (lookPl T hn pre)] 58] := by
  have S1 := S.setBoxAt 2 rfl 0 (.int .i64 pre.length) (setCell_two0 (S.cells 2 rfl) _) (by simp [Far, It.box]) (by omega)
  have S2 := S1.setBoxAt 2 rfl 1 (.int .i64 (lookPl T hn pre)) (setCell_two (S1.cells 2 rfl) _) (by simp [Far, It.box]) (by omega)
  have S3 := S2.setBoxAt 1 rfl 0 .nilIface (setCell_one0 (S2.cells 1 rfl) _) (by simp [Far, It.box]) (by omega)
  exact S3.turn fun i hi => by
    simp only [List.mem_cons, List.not_mem_nil, or_false] at hi
    rcases hi with rfl | rfl <;> simp

/-- The box of a table and a box of one cell. -/
theorem St.four {w0 w : World} {l : List It} {b1 b2 : Nat} {x y z u : Value} {t1 t2 : TypeId} (h : St w0 w l) (n m : Nat) (hn : l[n]? = some (It.box b1 #[x, y, z] t1)) (hm : l[m]? = some (It.box b2 #[u] t2)) :
    w.cell? ⟨b1, 0, none⟩ = some x ∧ w.cell? ⟨b1, 1, none⟩ = some y ∧ w.cell? ⟨b1, 2, none⟩ = some z ∧ w.cell? ⟨b2, 0, none⟩ = some u :=
  let f := facts3 (h.cells n hn)
  ⟨f.1, f.2.1, f.2.2.1, (facts1 (h.cells m hm)).1⟩

set_option maxRecDepth 100000 in
set_option maxHeartbeats 4000000 in
theorem look_any (T : Tab) (a : Option Addr) (c : Nat) (key : Int) (w : World) (hv : validB T = true) (h0 : 0 ≤ key) (h9 : key ≤ 99) (h1 : IntsAt w a T.zs) :
    Calls Tryz.prog 33 #[tabV T a c, .int .i64 key] w (LookRes T key w) := by
  obtain ⟨⟨l1, l2⟩, _⟩ := valid_facts hv
  have S0 := ((((((St.start w).read h1).alloc #[.int .i64 T.t, .int .i64 T.p, .slice a T.zs.length c] 25).alloc #[.int .i64 key] 3).alloc #[.int .i64 0, .int .i64 0] 58).alloc #[.nilIface] 60).alloc #[.int .i64 0, .int .i64 (-1)] 58
  simp only [World.size_alloc] at S0
  obtain ⟨hn, HN⟩ : ∃ hn, homeN T key = hn := ⟨_, rfl⟩
  have hhl : hn < T.zs.length := by rw [← HN]; exact homeN_lt hv key
  have HH : Hid (homeI T key = (hn : Int)) := Lib.hid (by rw [← HN]; exact (homeN_eq hv key).symm)
  have HN' := Lib.hid HN
  clear HN
  obtain ⟨x0, x1, x2, x3⟩ := S0.four 4 3 rfl rfl
  refine (callsIn_wide (n := 9)).1 ?_
  refine callsIn_of_wp_marks Tryz.func33 rfl trivial ?_ rfl
  simp only [Tryz.ntmps33, List.size_toArray, List.length_cons, List.length_nil, Nat.reduceAdd, Nat.reduceSub, Array.replicate_succ, Array.replicate_zero, List.push_toArray, List.append_toArray, List.nil_append, List.cons_append]
  gi_wp2_with fail
  refine wpIn_wide.2 ?_
  go_region_held3 (fun w' => w'.cell? ⟨w.heap.size, 0, none⟩ = some (.int .i64 T.t) ∧ w'.cell? ⟨w.heap.size, 1, none⟩ = some (.int .i64 T.p) ∧ w'.cell? ⟨w.heap.size, 2, none⟩ = some (.slice a T.zs.length c) ∧
      w'.cell? ⟨w.heap.size + 1, 0, none⟩ = some (.int .i64 key))
    (first
      | exact ⟨x0, x1, x2, x3⟩
      | exact S2.four 4 3 rfl rfl
      | exact S3.four 4 3 rfl rfl
      | exact S4.four 6 5 rfl rfl)
    (first
      | (go_at_call 59; refine (ringOf_any T a c _ (by exact S0.drew.reads 5 rfl) hv).mono ?_; rintro e w2 ⟨g, rfl, hg0, hg, hr, hb⟩; have S2 := S0.drew.below hb; clear hb)
      | (go_at_call 65; refine (homeIn_any T a c key _ hv h0 h9).mono ?_; rw [HH.out]; rintro e w3 ⟨rfl, hb⟩; have S3 := S2.below hb; have R3 := hr.below hb hg; have hg3 := Nat.lt_of_lt_of_le hg hb.size; clear hb)
      | (go_at_call 64; refine (ringAround_any _ _ _ _ _).mono ?_; rintro e w4 ⟨rfl, rfl⟩; have S4 := (S3.alloc #[.slice (some ⟨g, 0, none⟩) T.zs.length T.zs.length] 70).alloc #[.int .i64 hn] 3))
  have hg0' : w.heap.size + 5 ≤ g := by simpa using hg0
  clear S0 S2 hr hg x0 x1 x2 x3
  gi_wp2_with fail
  have hz4 : ((w3.alloc (.cells #[.slice (some ⟨g, 0, none⟩) T.zs.length T.zs.length] 70)).alloc (.cells #[.int .i64 hn] 3)).heap.size = w3.heap.size + 1 + 1 := by simp
  have hB1 : ((w3.alloc (.cells #[.slice (some ⟨g, 0, none⟩) T.zs.length T.zs.length] 70)).alloc (.cells #[.int .i64 hn] 3)).cell? ⟨w3.heap.size, 0, none⟩ = some (.slice (some ⟨g, 0, none⟩) T.zs.length T.zs.length) := (facts1 (S4.cells 1 rfl)).1
  have hB2 : ((w3.alloc (.cells #[.slice (some ⟨g, 0, none⟩) T.zs.length T.zs.length] 70)).alloc (.cells #[.int .i64 hn] 3)).cell? ⟨w3.heap.size + 1, 0, none⟩ = some (.int .i64 hn) := by
    have := (facts1 (S4.cells 0 rfl)).1
    rwa [World.size_alloc] at this
  have R4 : RingAt ((w3.alloc (.cells #[.slice (some ⟨g, 0, none⟩) T.zs.length T.zs.length] 70)).alloc (.cells #[.int .i64 hn] 3)) g T := R3.below (((Below.refl _ _).alloc (Nat.le_refl _) _).alloc (by simp) _) hg3
  have S5 : St w ((w3.alloc (.cells #[.slice (some ⟨g, 0, none⟩) T.zs.length T.zs.length] 70)).alloc (.cells #[.int .i64 hn] 3)) (lookIt T key hn w.heap.size []) := S4.turn fun i hi => by
    simp only [List.mem_cons, List.not_mem_nil, or_false, List.length_nil, lookPl_nil] at hi ⊢
    rcases hi with rfl | rfl | rfl | rfl <;> simp
  generalize hW4 : (w3.alloc (.cells #[.slice (some ⟨g, 0, none⟩) T.zs.length T.zs.length] 70)).alloc (.cells #[.int .i64 hn] 3) = W4 at S5 hz4 hB1 hB2 R4 ⊢
  clear hW4 S4 S3 R3
  have hzB : w.heap.size + 5 ≤ W4.heap.size := by omega
  have hItems : ∀ s, ∀ i ∈ lookIt T key hn w.heap.size s, i.hi ≤ W4.heap.size := fun s i hi => by
    simp only [List.mem_cons, List.not_mem_nil, or_false] at hi
    rcases hi with rfl | rfl | rfl | rfl <;> simp [It.box] <;> omega
  refine wpIn_rangeFunc_ownH (n := 9) rfl (by omega) (gf := 93) (lb := #[.pointer (some ⟨w3.heap.size, 0, none⟩), .pointer (some ⟨w3.heap.size + 1, 0, none⟩)]) rfl trivial (enters_of Tryz.func93 (by kernel_rfl) rfl)
    (ringAround_stops 8 (by omega) w3.heap.size (w3.heap.size + 1) g (w.heap.size + 5) W4.heap.size hn T l1 l2 hhl W4 (Nat.le_refl _) hB1 hB2 R4 (by omega) (by omega) (by omega) (by omega) (by omega) (by omega)) KeepRange.trans (keepRange_b (Nat.le_refl _)) (Below.refl _ _) (fun _ => rfl)
    (fun pre W => (St w W (lookIt T key hn w.heap.size pre) ∧ W4.heap.size ≤ W.heap.size) ∧ Free' T key hn pre)
    (LookOut T key hn w W4.heap.size)
    (st_own hItems (by omega)) (fun c => LookOut.own hzB c)
    ⟨⟨S5, Nat.le_refl _⟩, Free'.nil _ _ _⟩
    (fun x a' W => ∃ Bx, W4.heap.size ≤ Bx ∧ W.heap[Bx]? = some (.cells #[.int .i64 (nth T.zs (stepS T hn x)), .int .i64 (homeT T (nth T.zs (stepS T hn x)))] 73 (0, 0)) ∧
      a' = { tmps := #[tabV T a c, .int .i64 key, .pointer (some ⟨w.heap.size, 0, none⟩), .pointer (some ⟨w.heap.size + 1, 0, none⟩), .pointer (some ⟨w.heap.size + 1 + 1, 0, none⟩), .pointer (some ⟨w.heap.size + 1 + 1 + 1, 0, none⟩), .pointer (some ⟨w.heap.size + 1 + 1 + 1 + 1, 0, none⟩), .int .i64 (stepS T hn x), .pointer (some ⟨Bx, 0, none⟩), .agg #[.int .i64 0, .int .i64 (-1)], tabV T a c, .slice (some ⟨g, 0, none⟩) T.zs.length T.zs.length, tabV T a c, .int .i64 key, .int .i64 hn, .func (.func 93) #[] #[.pointer (some ⟨w3.heap.size, 0, none⟩), .pointer (some ⟨w3.heap.size + 1, 0, none⟩)], .int .i64 (stepS T hn x), .agg #[.int .i64 (nth T.zs (stepS T hn x)), .int .i64 (homeT T (nth T.zs (stepS T hn x)))], undef, undef, undef, undef, undef, undef, undef, undef, undef, undef, undef, undef, undef, undef, undef, undef, undef, undef, undef, undef, undef, undef, undef, undef, undef, undef, undef, undef], defers := [] })
    (fun x a' => block_own (P := fun _ Bx => W4.heap.size ≤ Bx)) ?assign ?body ?done ?stop
  case assign =>
    rintro l pre x W K ⟨⟨hi, hz⟩, hf⟩ hK
    gi_wp2
    exact hK _ _ ((KeepsOthers.alloc _ _).from _) ((KeepRange.refl _ _ W).below ((Below.refl _ _).alloc (Nat.le_refl _) _) hz) ⟨⟨hi.below ((Below.refl _ _).alloc (Nat.le_refl _) _), by simp; omega⟩, hf⟩ ⟨W.heap.size, hz, heap_alloc_new W _, rfl⟩
  case body =>
    rintro l pre x a' W hl hrec ⟨⟨Sp, hz⟩, hf⟩ ⟨Bx, hBx, bX, rfl⟩ hlt
    have hkl := stepS_lt l1 hn x
    obtain ⟨hy1, hy2⟩ := valid_slot hv hkl
    obtain ⟨p1, p2⟩ := lookPl_bounds l1 hn pre
    have HST : Hid (stopAt T key hn x = (nth T.zs (stepS T hn x) == -1 || nth T.zs (stepS T hn x) == key)) := Lib.hid rfl
    have HKP := Lib.hid (fun h => lookPl_keep (T := T) (h := hn) (pre := pre) (i := x) h)
    have HNW := Lib.hid (fun h h2 => lookPl_new (T := T) (h := hn) (pre := pre) (i := x) h h2)
    have HF := Lib.hid hf
    have HI := Lib.hid hItems
    clear hf hItems
    obtain ⟨u0, u1, u2, u3, uz⟩ := facts2 (Sp.cells 0 rfl)
    obtain ⟨v0, v1, vz⟩ := facts1 (Sp.cells 3 rfl)
    obtain ⟨t0, t1, t2, t3, tz⟩ := facts2 bX
    obtain ⟨r0, r1, rz⟩ := facts1 (Sp.cells 1 rfl)
    obtain ⟨s0, s1, s2, s3, sz⟩ := facts2 (Sp.cells 2 rfl)
    have Q1 := Lib.hid (show ((pre ++ [x]).length : Int) = pre.length + 1 by simp)
    have hmix : Tryz.prog.follows .mixedOrders = true := by kernel_rfl
    have hpl : pre.length ≤ 16 := by omega
    have hk1 : stepS T hn x ≤ 16 := by omega
    generalize hkk : stepS T hn x = kk at *
    generalize hyy : nth T.zs kk = y at *
    generalize hPP : lookPl T hn pre = P at *
    have HKK := Lib.hid hkk
    have HYY := Lib.hid hyy
    have HPP := Lib.hid hPP
    clear hkk hyy hPP hkl hv
    have KC : KeepsFrom W4.heap.size W (W.setCell ⟨w.heap.size + 1 + 1 + 1 + 1, 0, none⟩ (.int .i64 (pre.length + 1))) := (KeepsOthers.setCell W _ _).from _
    have KB : KeepsFrom W4.heap.size W ((W.setCell ⟨w.heap.size + 1 + 1 + 1 + 1, 0, none⟩ (.int .i64 (pre.length + 1))).setCell ⟨w.heap.size + 1 + 1 + 1 + 1, 1, none⟩ (.int .i64 kk)) := ((KeepsOthers.setCell W _ _).trans (KeepsOthers.setCell _ _ _)).from _
    have RC : KeepRange (w.heap.size + 5) W4.heap.size W (W.setCell ⟨w.heap.size + 1 + 1 + 1 + 1, 0, none⟩ (.int .i64 (pre.length + 1))) := (KeepRange.refl _ _ W).set (.inl (by simp)) _
    have RB : KeepRange (w.heap.size + 5) W4.heap.size W ((W.setCell ⟨w.heap.size + 1 + 1 + 1 + 1, 0, none⟩ (.int .i64 (pre.length + 1))).setCell ⟨w.heap.size + 1 + 1 + 1 + 1, 1, none⟩ (.int .i64 kk)) := RC.set (.inl (by simp)) _
    have KC := Lib.hid KC; have KB := Lib.hid KB; have RC := Lib.hid RC; have RB := Lib.hid RB
    rcases Decidable.em (y = key) with hyk | hyk
    · have hb : (y == key) = true := by simp [hyk]
      have HA : Hid (KeepsFrom W4.heap.size W ((((W.setCell ⟨w.heap.size + 1 + 1 + 1 + 1, 0, none⟩ (.int .i64 (pre.length + 1))).setCell ⟨w.heap.size + 1 + 1, 0, none⟩ (.int .i64 (pre.length + 1))).setCell ⟨w.heap.size + 1 + 1, 1, none⟩ (.int .i64 P)).setCell ⟨w.heap.size + 1 + 1 + 1, 0, none⟩ (.iface 65 (.agg #[.int .i64 key, .int .i64 kk]))).drew ∧
          LookOut T key hn w W4.heap.size .ret (pre ++ [x]) ((((W.setCell ⟨w.heap.size + 1 + 1 + 1 + 1, 0, none⟩ (.int .i64 (pre.length + 1))).setCell ⟨w.heap.size + 1 + 1, 0, none⟩ (.int .i64 (pre.length + 1))).setCell ⟨w.heap.size + 1 + 1, 1, none⟩ (.int .i64 P)).setCell ⟨w.heap.size + 1 + 1 + 1, 0, none⟩ (.iface 65 (.agg #[.int .i64 key, .int .i64 kk]))).drew) := by
        apply Lib.hid
        have e1 := HPP.out
        subst e1
        refine ⟨(((((KeepsOthers.setCell _ _ _).trans (KeepsOthers.setCell _ _ _)).trans (KeepsOthers.setCell _ _ _)).trans (KeepsOthers.setCell _ _ _)).trans (KeepsOthers.drew _)).from _, .inl ⟨pre, x, lookPl T hn pre, rfl, rfl, HF.out, by rw [HKK.out, HYY.out, hyk], ?_, by simpa [World.setCell] using hz⟩⟩
        rw [HKK.out]
        exact (look_endA Sp x Q1.out kk).drew
      gi_wp2_with fail
      gi_region_with_o (fail)
      gi_wp2_with fail
      all_goals exact HA.out
    · have hb : (y == key) = false := by simp [hyk]
      rcases Decidable.em (P < 0) with hP | hP
      · rcases Decidable.em (0 ≤ y) with hy | hy
        · have hB : inB y 0 99 = true := by simp [inB]; omega
          have hc1 : (y == -1) = false := by simp; omega
          gi_wp2_with (first | (refine ⟨trivial, ?_⟩; gi_at_call 66; refine (CallsIn.inRound l (callsIn_wide.2 (heldIsKey_any _ _))).mono ?_; rintro e w' ⟨rfl, rfl⟩; first | rw [hB] | rw [show inB (-1) 0 99 = false from rfl]))
          exact ⟨KC.out, RC.out, ⟨look_endC Sp x Q1.out ((HKP.out (.inr hy)).trans HPP.out.symm), by simpa [World.setCell] using hz⟩, HF.out.snoc (by rw [HST.out, hc1, hb]; rfl)⟩
        · have hB : inB y 0 99 = false := by simp [inB]; omega
          rcases Decidable.em (y = -1) with hc | hc
          · have hc1 : (y == -1) = true := by simp [hc]
            gi_wp2_with (first | (refine ⟨trivial, ?_⟩; gi_at_call 66; refine (CallsIn.inRound l (callsIn_wide.2 (heldIsKey_any _ _))).mono ?_; rintro e w' ⟨rfl, rfl⟩; first | rw [hB] | rw [show inB (-1) 0 99 = false from rfl]))
            exact ⟨KB.out, .inr ⟨pre, x, rfl, rfl, HF.out, by rw [HKK.out, HYY.out, hc], look_endB Sp x Q1.out (HNW.out hP (by omega)), by simpa [World.setCell] using hz⟩⟩
          · have hc1 : (y == -1) = false := by simp [hc]
            gi_wp2_with (first | (refine ⟨trivial, ?_⟩; gi_at_call 66; refine (CallsIn.inRound l (callsIn_wide.2 (heldIsKey_any _ _))).mono ?_; rintro e w' ⟨rfl, rfl⟩; first | rw [hB] | rw [show inB (-1) 0 99 = false from rfl]))
            exact ⟨KB.out, RB.out, ⟨look_endB Sp x Q1.out (HNW.out hP (by omega)), by simpa [World.setCell] using hz⟩, HF.out.snoc (by rw [HST.out, hc1, hb]; rfl)⟩
      · rcases Decidable.em (y = -1) with hc | hc
        · have hc1 : (y == -1) = true := by simp [hc]
          gi_wp2_with fail
          refine ⟨trivial, ?_⟩
          gi_wp2_with fail
          exact ⟨KC.out, .inr ⟨pre, x, rfl, rfl, HF.out, by rw [HKK.out, HYY.out, hc], look_endC Sp x Q1.out ((HKP.out (.inl (by omega))).trans HPP.out.symm), by simpa [World.setCell] using hz⟩⟩
        · have hc1 : (y == -1) = false := by simp [hc]
          gi_wp2_with fail
          refine ⟨trivial, ?_⟩
          gi_wp2_with fail
          exact ⟨KC.out, RC.out, ⟨look_endC Sp x Q1.out ((HKP.out (.inl (by omega))).trans HPP.out.symm), by simpa [World.setCell] using hz⟩, HF.out.snoc (by rw [HST.out, hc1, hb]; rfl)⟩
  case done =>
    rintro D ys W hD rfl ⟨⟨Sp, hz⟩, hf⟩ hK
    obtain ⟨n1, n2, n3⟩ := look_none l1 HN'.out rfl hf
    have NN := Lib.hid (And.intro n1 (And.intro n2 n3))
    clear n1 n2 n3
    have SP := Lib.hid Sp
    obtain ⟨r0, r1, rz⟩ := facts1 (Sp.cells 1 rfl)
    obtain ⟨s0, s1, s2, s3, sz⟩ := facts2 (Sp.cells 2 rfl)
    obtain ⟨u0, u1, u2, u3, uz⟩ := facts2 (Sp.cells 0 rfl)
    have hK' : (((W.setCell ⟨w.heap.size + 1 + 1, 0, none⟩ (.int .i64 (List.range T.zs.length).length)).setCell ⟨w.heap.size + 1 + 1, 1, none⟩ (.int .i64 (lookPl T hn (List.range T.zs.length)))).setCell ⟨w.heap.size + 1 + 1 + 1, 0, none⟩ .nilIface).heap[D]? = some (.deferred (some [])) :=
      (((KeepsOthers.setCell _ _ _).trans (KeepsOthers.setCell _ _ _)).trans (KeepsOthers.setCell _ _ _)).same D _ hK rfl
    have S9 := look_endD Sp
    gi_wp2_with fail
    simp only [List.length_range] at hK' S9
    have S10 := st_put (o := .deferred none) S9 (B := w.heap.size + 5) (D := D) (by simp [It.box]) (by omega) (by omega)
    refine ⟨by simp, .inl ⟨_, _, rfl, run_takeDeferred hK', ?_⟩⟩
    obtain ⟨a0, _, _⟩ := facts1 (S10.cells 0 rfl)
    obtain ⟨b0, b1, _, _, _⟩ := facts2 (S10.cells 1 rfl)
    refine ⟨.tuple #[.agg #[.int .i64 T.zs.length, .int .i64 (lookPl T hn (List.range T.zs.length))], .nilIface], by simp [results, Tryz.f33, Tryz.results33, go_sem, a0, b0, b1], lookPl T hn (List.range T.zs.length), .nilIface, ?_, .inr ⟨NN.out.2.1, rfl, NN.out.2.2.symm⟩, S10.old⟩
    rw [NN.out.1, List.length_range]
  case stop =>
    rintro D c pre W hD ⟨k, hk, he⟩ (⟨pre', x, pl, rfl, hp, hf, hs, Sp, hz⟩ | ⟨pre', x, rfl, hp, hf, hs, Sp, hz⟩) hK
    · subst hp
      have NN := Lib.hid (look_found HN'.out hk he hf hs)
      have S10 := st_put (o := .deferred none) Sp (B := w.heap.size + 5) (D := D) (by simp [It.box]) (by omega) (by omega)
      obtain ⟨a0, _, _⟩ := facts1 (S10.cells 0 rfl)
      obtain ⟨b0, b1, _, _, _⟩ := facts2 (S10.cells 1 rfl)
      gi_wp2_with fail
      refine ⟨by simp, .inl ⟨_, _, rfl, run_takeDeferred hK, ?_⟩⟩
      refine ⟨.tuple #[.agg #[.int .i64 (pre' ++ [x]).length, .int .i64 pl], .iface 65 (.agg #[.int .i64 key, .int .i64 (stepS T hn x)])], by simp [results, Tryz.f33, Tryz.results33, go_sem, a0, b0, b1], pl, _, ?_, .inl ⟨stepS T hn x, NN.out.2, rfl⟩, S10.old⟩
      rw [NN.out.1]
    · subst hp
      have NN := Lib.hid (look_free h0 HN'.out hk he hf hs)
      have S9 := look_endD Sp
      have hK' : (((W.setCell ⟨w.heap.size + 1 + 1, 0, none⟩ (.int .i64 (pre' ++ [x]).length)).setCell ⟨w.heap.size + 1 + 1, 1, none⟩ (.int .i64 (lookPl T hn (pre' ++ [x])))).setCell ⟨w.heap.size + 1 + 1 + 1, 0, none⟩ .nilIface).heap[D]? = some (.deferred (some [])) :=
        (((KeepsOthers.setCell _ _ _).trans (KeepsOthers.setCell _ _ _)).trans (KeepsOthers.setCell _ _ _)).same D _ hK rfl
      have hl1 : ((pre' ++ [x]).length : Int) = pre'.length + 1 := by simp
      rw [hl1] at hK' S9
      have S10 := st_put (o := .deferred none) S9 (B := w.heap.size + 5) (D := D) (by simp [It.box]) (by omega) (by omega)
      obtain ⟨a0, _, _⟩ := facts1 (S10.cells 0 rfl)
      obtain ⟨b0, b1, _, _, _⟩ := facts2 (S10.cells 1 rfl)
      have HC := Lib.hid (And.intro a0 (And.intro b0 b1))
      clear a0 b0 b1
      obtain ⟨r0, r1, rz⟩ := facts1 (Sp.cells 1 rfl)
      obtain ⟨s0, s1, s2, s3, sz⟩ := facts2 (Sp.cells 2 rfl)
      obtain ⟨u0, u1, u2, u3, uz⟩ := facts2 (Sp.cells 0 rfl)
      gi_wp2_with fail
      refine ⟨by simp, .inl ⟨_, _, rfl, run_takeDeferred hK', ?_⟩⟩
      obtain ⟨a0, b0, b1⟩ := HC.out
      refine ⟨.tuple #[.agg #[.int .i64 (pre'.length + 1), .int .i64 (lookPl T hn (pre' ++ [x]))], .nilIface], by simp [results, Tryz.f33, Tryz.results33, go_sem, a0, b0, b1], lookPl T hn (pre' ++ [x]), .nilIface, ?_, .inr ⟨NN.out.2.1, rfl, NN.out.2.2.symm⟩, S10.old⟩
      rw [NN.out.1, hl1]

end Go.Proofs.YtkdkdmjhhgllgaaGreatDoor
end

section
namespace Go.Proofs.YtkdkdmjhhgllgaaGreatDoor
open Go.RowKit Go.Extern.Stop Go.Stop Go.Extern

theorem run_eql_iface_int {P : Program} (w : World) {ti tp : TypeId} {ms : Array (String × TypeId)} {i : TypeInfo} (k m : Int) (hi : P.underlying ti = some (.interface ms)) (hp : P.underlying tp = some (.int .i64)) (hinfo : P.info? tp = some i) (hcomp : i.comparable = true) :
    (binOp .eql ti (.iface tp (.int .i64 k)) (.iface tp (.int .i64 m))).run P w = .ok (.bool (k == m)) w := by
  have h : ∀ d : Nat, (Op.equalIn (d + 2) ti (.iface tp (.int .i64 k)) (.iface tp (.int .i64 m))).run P w = .ok (k == m) w := fun d => by
    simp [Op.equalIn, run_underlying hi, run_underlying hp, typeInfo, hinfo, hcomp]
  simp only [binOp]
  simp [Op.equal, Op.maxDepth, h 9998]

theorem isTypeOf : ∀ (v : Value) (w : World), (ReflectliteType.typeOf #[.iface 63 v]).run Tryz.prog w = .ok (.iface 131 (.agg #[.pointer (some ⟨Tryz.prog.globals.size, 63, none⟩)])) w := by intro v w; kernel_rfl
theorem isComparable : ∃ F : Array Value → Sem Value, (∀ (args : Array Value) (w : World), (callFunc 150 args).run Tryz.prog w = ((F args).run Tryz.prog w).andThen fun v w' => .ok (.value v) w') ∧
    ∀ w : World, (F #[.agg #[.pointer (some ⟨Tryz.prog.globals.size, 63, none⟩)]]).run Tryz.prog w = .ok (.bool true) w :=
  ⟨ReflectliteType.method fun t => do Rtype.noPackHeld "Comparable" t; pure (.bool (← typeInfo t).comparable),
    @run_callFunc_extern Tryz.prog 150 _ _ Tryz.func150 (by kernel_rfl) (by kernel_rfl) (by kernel_rfl) (by kernel_rfl), by intro w; kernel_rfl⟩
theorem isMethodComparable (v : Value) (w : World) : (Go.method 301 131 v "Comparable").run Tryz.prog w = .ok (150, v) w := by kernel_rfl
theorem isComp : (Tryz.prog.info? 63).map (·.comparable) = some true := by kernel_rfl
theorem noIsF (v : Value) (xT : TypeId) (w : World) : (Instr.typeAssert (.iface 65 v) xT 144 true).run Tryz.prog w = .ok (.tuple #[.nilIface, .bool false]) w := run_typeAssert_lacksB Tryz.underlying144 (by kernel_rfl) (by kernel_rfl) v xT w
theorem hasUnwrapF (v : Value) (xT : TypeId) (w : World) : (Instr.typeAssert (.iface 65 v) xT 138 true).run Tryz.prog w = .ok (.tuple #[.iface 65 v, .bool true]) w := run_typeAssert_hasB Tryz.underlying138 (by kernel_rfl) v xT w
theorem methodUnwrap (v : Value) (w : World) : (Go.method 301 65 v "Unwrap").run Tryz.prog w = .ok (144, v) w := by kernel_rfl

theorem Unwrap_any (k s : Int) (w : World) :
    Calls Tryz.prog 144 #[.agg #[.int .i64 k, .int .i64 s]] w fun e w' => e = .returned (.iface 63 (.int .i64 k)) ∧ w' = w.alloc (.cells #[.int .i64 k, .int .i64 s] 65) := by
  go_enter Tryz.func144, Tryz.ntmps144
  go_wp2
  go_ret
  exact ⟨rfl, rfl⟩

theorem is_none (k : Int) (w : World) :
    Calls Tryz.prog 50 #[.nilIface, .iface 63 (.int .i64 k)] w fun e w' => e = .returned (.bool false) ∧ w' = w := by
  have hn := run_eql_iface_nil_left (P := Tryz.prog) w 63 (.int .i64 k) Tryz.underlying60
  go_enter Tryz.func50, Tryz.ntmps50
  go_wp2
  go_ret
  exact ⟨rfl, rfl⟩

set_option maxRecDepth 100000 in
set_option maxHeartbeats 4000000 in
theorem is_found (k s : Int) (w : World) :
    Calls Tryz.prog 50 #[.iface 65 (.agg #[.int .i64 k, .int .i64 s]), .iface 63 (.int .i64 k)] w fun e w' => e = .returned (.bool true) ∧ w' = w.alloc (.cells #[.int .i64 k, .int .i64 s] 65) := by
  obtain ⟨i, hi, hcmp⟩ := Option.map_eq_some_iff.1 isComp
  have h8 := @run_callFunc_extern Tryz.prog 83 _ ReflectliteType.typeOf Tryz.func83 (by kernel_rfl) (by kernel_rfl) (by kernel_rfl) (by kernel_rfl)
  obtain ⟨gl, hgl⟩ : ∃ n, n = Tryz.prog.globals.size := ⟨_, rfl⟩
  have tT := isTypeOf
  obtain ⟨F, h32, cT⟩ := isComparable
  simp only [← hgl] at cT
  simp only [← hgl] at tT
  clear hgl
  have mR := isMethodComparable
  have nE := noIsF
  have uE := hasUnwrapF
  have mU := methodUnwrap
  have heq := fun w => run_eql_iface_int (P := Tryz.prog) w k k Tryz.underlying60 Tryz.underlying63 hi hcmp
  have hty := fun w => run_eql_iface_types (P := Tryz.prog) 65 63 (.agg #[.int .i64 k, .int .i64 s]) (.int .i64 k) Tryz.underlying60 (by decide) w
  go_enter Tryz.func50, Tryz.ntmps50
  go_wp2
  refine wp_loop_rounds 2 ?_
  rw [rounds_succ]
  go_wp2
  rw [rounds_succ]
  go_wp2
  go_ret
  exact ⟨rfl, rfl⟩

set_option maxHeartbeats 1000000 in
theorem finds_any (T : Tab) (a : Option Addr) (c : Nat) (key : Int) (w : World) (hv : validB T = true) (h0 : 0 ≤ key) (h9 : key ≤ 99) (h1 : IntsAt w a T.zs) :
    Calls Tryz.prog 21 #[tabV T a c, .int .i64 key] w fun e w' => e = .returned (.bool (decide (0 ≤ findI T key))) ∧ Below w.heap.size w w' := by
  have S0 := ((St.start w).read h1).alloc #[.int .i64 T.t, .int .i64 T.p, .slice a T.zs.length c] 25
  obtain ⟨x0, x1, x2, x3, x4, x5, xz⟩ := facts3 (S0.cells 0 rfl)
  go_enter Tryz.func21, Tryz.ntmps21
  go_wp2_with fail
  refine (look_any T a c key _ hv h0 h9 (by exact S0.reads 1 rfl)).mono ?_
  rintro e w1 ⟨pl, ev, rfl, (⟨k, hk, rfl⟩ | ⟨hk, rfl, hpl⟩), hb⟩
  · have S1 := S0.below hb
    have R : Hid (decide (0 ≤ findI T key) = true) := Lib.hid (by rw [hk]; simp)
    clear x0 x1 x2 x3 x4 x5 xz hk
    go_wp2_with fail
    refine (is_found key k _).mono ?_
    rintro e w2 ⟨rfl, rfl⟩
    go_wp2
    go_ret
    exact ⟨by rw [R.out]; rfl, (S1.old.trans ((Below.refl _ _).alloc S1.old.size _)).trans ((Below.refl _ _).alloc (by have := S1.old.size; simp; omega) _)⟩
  · have S1 := S0.below hb
    have R : Hid (decide (0 ≤ findI T key) = false) := Lib.hid (by rw [hk]; simp)
    clear x0 x1 x2 x3 x4 x5 xz hk hpl
    go_wp2_with fail
    refine (is_none key _).mono ?_
    rintro e w2 ⟨rfl, rfl⟩
    go_wp2
    go_ret
    exact ⟨by rw [R.out]; rfl, S1.old.trans ((Below.refl _ _).alloc S1.old.size _)⟩

end Go.Proofs.YtkdkdmjhhgllgaaGreatDoor
end

section
namespace Go.Proofs.YtkdkdmjhhgllgaaGreatDoor
open Go.RowKit

set_option maxHeartbeats 400000 in
theorem canLook_any (T : Tab) (a : Option Addr) (c : Nat) (key : Int) (w : World) (hx : T.zs.length ≤ 9223372036854775807) (h1 : IntsAt w a T.zs) :
    Calls Tryz.prog 32 #[tabV T a c, .int .i64 key] w fun e w' => e = .returned (.bool (validB T && inB key 0 99)) ∧ Below w.heap.size w w' := by
  have S0 := ((St.start w).read h1).alloc #[.int .i64 T.t, .int .i64 T.p, .slice a T.zs.length c] 25
  cases hv : validB T
  · go_enter Tryz.func32, Tryz.ntmps32
    go_wp2_with fail
    refine (TableValid_any T a c _ hx (by exact S0.reads 1 rfl)).mono ?_
    rw [hv]
    rintro e w1 ⟨rfl, hb⟩
    have S1 := S0.below hb
    go_wp2
    go_ret
    exact ⟨rfl, S1.old⟩
  · go_enter Tryz.func32, Tryz.ntmps32
    go_wp2_with fail
    refine (TableValid_any T a c _ hx (by exact S0.reads 1 rfl)).mono ?_
    rw [hv]
    rintro e w1 ⟨rfl, hb⟩
    have S1 := S0.below hb
    go_wp2_with (first | (go_at_call 49; refine (isKey_any _ _).mono ?_; rintro e w' ⟨rfl, rfl⟩))
    go_ret
    exact ⟨rfl, S1.old⟩

end Go.Proofs.YtkdkdmjhhgllgaaGreatDoor
end

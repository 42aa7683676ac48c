/-
  Draws of tables, and copies of them.
-/
import Derived.Test.YtjhdlbcgnhkbhaaGreatDoorDraw3
import Derived.Deep.RegionHeld3
import Derived.Deep.AppendLies
import Derived.Test.YtjhdlbcgnhkbhaaGreatDoorBase
namespace Go.Proofs.YtjhdlbcgnhkbhaaGreatDoor
open Go.RowKit

/-- What a drawn table is like. -/
structure DrawnB (T : Tab) : Prop where
  len : 1 ≤ T.zs.length ∧ T.zs.length ≤ 17
  t : -1 ≤ T.t ∧ T.t ≤ 16
  p : -1 ≤ T.p ∧ T.p ≤ 16
  zs : ∀ x ∈ T.zs, -3 ≤ x ∧ x ≤ 100

theorem set_all {zs : List Int} {P : Int → Prop} {x : Int} (h : ∀ y ∈ zs, P y) (i : Nat) (hx : P x) : ∀ y ∈ zs.set i x, P y := by
  intro y hy
  rcases List.mem_or_eq_of_mem_set hy with h2 | rfl
  · exact h y h2
  · exact hx

/-- A store into a block of cells. -/
theorem St.setBox {w0 w : World} {l : List It} {b : Nat} {c : Array Value} {t : TypeId} (h : St w0 w (It.box b c t :: l)) (o : Nat) (v : Value) (hf : Far (It.box b c t) l) (hlo : w0.heap.size ≤ b) : St w0 (w.setCell ⟨b, o, none⟩ v) (It.box b (c.setIfInBounds o v) t :: l) := by
  refine h.write (row := some b) ⟨rfl, rfl, rfl, by simp [World.setCell], fun k _ hk => Below.heap_setCell w _ _ k (fun e => hk (by rw [e]))⟩ (fun k e => by cases e; exact ⟨Nat.le_refl _, Nat.lt_succ_self _⟩) hf hlo ?_ (setCell_at (h.cells 0 rfl) o v)
  have h3 : b + 1 ≤ w.heap.size := h.sz 0 rfl
  show b + 1 ≤ (w.setCell _ _).heap.size
  simpa [World.setCell] using h3

theorem pull_row {w0 w : World} {l : List It} {i j k m n o : It} (h : St w0 w (i :: j :: k :: m :: n :: o :: l)) : St w0 w (n :: i :: j :: m :: o :: l) := h.turn fun x hx => by
  simp only [List.mem_cons] at hx ⊢
  rcases hx with h | h | h | h | h | h
  · exact .inr (.inr (.inr (.inr (.inl h))))
  · exact .inl h
  · exact .inr (.inl h)
  · exact .inr (.inr (.inr (.inl h)))
  · exact .inr (.inr (.inr (.inr (.inr (.inl h)))))
  · exact .inr (.inr (.inr (.inr (.inr (.inr h)))))

theorem own_at {w : World} {base b o : Nat} {zs : List Int} (h : OwnInts w base (some ⟨b, o, none⟩) zs) {i : Nat} (hi : i < zs.length) : w.cell? ⟨b, o + i, none⟩ = some (.int .i64 (zs[i]?.getD 0)) ∧ w.frozen? ⟨b, o + i, none⟩ = false := by
  obtain ⟨_, _, e, hc, hf⟩ := h.2 (by omega)
  cases e
  exact ⟨hc i hi, hf i hi⟩

theorem snoc_all {zs : List Int} {P : Int → Prop} {x : Int} (h : ∀ y ∈ zs, P y) (hx : P x) : ∀ y ∈ zs ++ [x], P y := by
  intro y hy
  rcases List.mem_append.1 hy with h2 | h2
  · exact h y h2
  · simp at h2; subst h2; exact hx

theorem drawn_of {T : Tab} (n1 : 1 ≤ T.zs.length) (n2 : T.zs.length ≤ 17) (t1 : -1 ≤ T.t) (t2 : T.t ≤ 16) (q1 : -1 ≤ T.p) (q2 : T.p ≤ 16) (h : ∀ x ∈ T.zs, -3 ≤ x ∧ x ≤ 100) : DrawnB T := ⟨⟨n1, n2⟩, ⟨t1, t2⟩, ⟨q1, q2⟩, h⟩

end Go.Proofs.YtjhdlbcgnhkbhaaGreatDoor

namespace Go.Proofs.YtjhdlbcgnhkbhaaGreatDoor
open Go.RowKit

theorem ownsRow_pos {w : World} {base : Nat} {e : TypeId} {size : Nat} {v : Value} {n : Nat} {xs : List Value} (h : w.ownsRow base e size v n xs) (h0 : 0 < n) : ∃ g cap, v = .slice (some ⟨g, 0, none⟩) n cap := by
  rcases h.2 with ⟨_, h1⟩ | ⟨g, cap, cur, rfl, _⟩
  · omega
  · exact ⟨g, cap, rfl⟩

theorem ownsRow_cap {w : World} {base : Nat} {e : TypeId} {size : Nat} {a : Option Addr} {m c n : Nat} {xs : List Value} (h : w.ownsRow base e size (.slice a m c) n xs) : n ≤ c := by
  rcases h.2 with ⟨hv, h1⟩ | ⟨g, cap, cur, hv, _, _, h1, _⟩
  · omega
  · simp only [Value.slice.injEq] at hv
    omega

set_option maxHeartbeats 2000000 in
theorem l1Copy_cap (T : Tab) (a : Option Addr) (c : Nat) (w : World) (h1 : 1 ≤ T.zs.length) (hn : T.zs.length ≤ 100) (h : IntsAt w a T.zs) :
    Calls Tryz.prog 48 #[tabV T a c] w fun e w' => ∃ g c', e = .returned (tabV T (some ⟨g, 0, none⟩) c') ∧ T.zs.length ≤ c' ∧ OwnInts w' w.heap.size (some ⟨g, 0, none⟩) T.zs ∧ Below w.heap.size w w' := by
  obtain ⟨i0, hi, hz0, hz1, hz2⟩ := info_parts Tryz.info3
  have HI := Lib.hid hi; have HZ0 := Lib.hid hz0; have HZ1 := Lib.hid hz1; have HZ2 := Lib.hid hz2
  clear hi hz0 hz1 hz2
  have S0 := (((St.start w).read h).alloc #[.int .i64 T.t, .int .i64 T.p, .slice a T.zs.length c] 30).alloc #[.int .i64 0, .int .i64 0, .slice none 0 0] 30
  rw [World.size_alloc] at S0
  obtain ⟨b, o, rfl, hc⟩ := h (by omega)
  have hown := row_start ((w.alloc (.cells #[.int .i64 T.t, .int .i64 T.p, .slice (some ⟨b, o, none⟩) T.zs.length c] 30)).alloc (.cells #[.int .i64 0, .int .i64 0, .slice none 0 0] 30))
  have S1 := S0.below ((Below.refl _ _).alloc (Nat.le_refl _) (.cells #[] 3))
  simp only [World.size_alloc] at hown S1
  have hc2 : Hid (∀ (j : Nat) (u : Value), (T.zs.map (Value.int .i64))[j]? = some u → (((w.alloc (.cells #[.int .i64 T.t, .int .i64 T.p, .slice (some ⟨b, o, none⟩) T.zs.length c] 30)).alloc (.cells #[.int .i64 0, .int .i64 0, .slice none 0 0] 30)).alloc (.cells #[] 3)).cell? ((⟨b, o, none⟩ : Addr).add j) = some u) := Lib.hid (by
    intro j u hj
    have hj' : j < T.zs.length := by have := (List.getElem?_eq_some_iff.1 hj).1; simpa using this
    obtain ⟨b', o', e, h5⟩ := (S1.reads 2 rfl) (by omega)
    cases e
    rw [List.getElem?_map, List.getElem?_eq_getElem hj'] at hj
    have h6 := h5 j hj'
    rw [List.getElem?_eq_getElem hj'] at h6
    simp at hj h6
    rw [show (⟨b, o, none⟩ : Addr).add j = ⟨b, o + j, none⟩ by simp [Addr.add], h6, hj])
  have HO := Lib.hid hown
  clear hown hc
  go_enter Tryz.func48, Tryz.ntmps48
  go_wp2_with (at_builtin; refine wpList_append_own _ rfl _ _ 22 rfl (w.heap.size + 1 + 1) 3 i0 (.int .i64 0) 1 8 Tryz.underlying22 HI.out HZ0.out HZ1.out HZ2.out rfl (by decide) _ _ _ rfl HO.out ⟨b, o, none⟩ T.zs.length c (T.zs.map (Value.int .i64)) rfl (by simp) hc2.out (by intro u hu; obtain ⟨x, _, rfl⟩ := List.mem_map.1 hu; rfl) (by unfold maxLen; omega) (by omega) (by simp) ?_)
  intro v' w5 hown5 hg5 _
  obtain ⟨g, c', rfl⟩ := ownsRow_pos hown5 (by omega)
  have hcap := Lib.hid (ownsRow_cap hown5)
  have e0 : w5.heap[w.heap.size]? = _ := (hg5.block _ (by simp; omega) (by simp [Value.ownBlock]; omega)).trans (S1.cells 1 rfl)
  have e1 : w5.heap[w.heap.size + 1]? = _ := (hg5.block _ (by simp) (by simp [Value.ownBlock])).trans (S1.cells 0 rfl)
  have e2 := setCell_at e0 2 (.slice (some ⟨g, 0, none⟩) T.zs.length c')
  have B5 : Hid (Below w.heap.size w w5) := Lib.hid (S1.old.trans (grownBy_below hg5 (by simp; omega) (fun k e => by simp [Value.ownBlock] at e; omega)))
  have HO5 := Lib.hid (ownsRow_ints hown5)
  have hz5 := hg5.size
  simp only [World.size_alloc] at hz5
  obtain ⟨x0, x1, x2, x3, x4, x5, xz⟩ := facts3 e0
  obtain ⟨y0, y1, y2, y3, y4, y5, yz⟩ := facts3 e1
  clear hown5 hg5 e0 e1 e2 S0 S1 HO hc2
  go_wp2
  refine bodyPost_ret (v := tabV T (some ⟨g, 0, none⟩) c') (by simp [results, Tryz.results48, go_sem, x0, x1, x2, x3, x4, x5, y0, y1, y2, y3, y4, y5]) rfl ⟨g, c', rfl, hcap.out, ?_, ?_⟩
  · exact ((((HO5.out.setOther (p := ⟨w.heap.size, 2, none⟩) (by simp; omega) _).setOther (p := ⟨w.heap.size + 1, 0, none⟩) (by simp) _).setOther (p := ⟨w.heap.size + 1, 1, none⟩) (by simp) _).setOther (p := ⟨w.heap.size + 1, 2, none⟩) (by simp) _).mono (by omega)
  · exact set3 (B5.out.setCell (p := ⟨w.heap.size, 2, none⟩) (Nat.le_refl _) _) (by omega) _ _ _

theorem l1Copy_any (T : Tab) (a : Option Addr) (c : Nat) (w : World) (h1 : 1 ≤ T.zs.length) (hn : T.zs.length ≤ 100) (h : IntsAt w a T.zs) :
    Calls Tryz.prog 48 #[tabV T a c] w fun e w' => ∃ g c', e = .returned (tabV T (some ⟨g, 0, none⟩) c') ∧ OwnInts w' w.heap.size (some ⟨g, 0, none⟩) T.zs ∧ Below w.heap.size w w' := by
  refine (l1Copy_cap T a c w h1 hn h).mono ?_
  rintro e w' ⟨g, c', rfl, _, k⟩
  exact ⟨g, c', rfl, k⟩

end Go.Proofs.YtjhdlbcgnhkbhaaGreatDoor

namespace Go.Proofs.YtjhdlbcgnhkbhaaGreatDoor
open Go.RowKit

theorem NumsAt.take {k : IntKind} {w : World} {a : Option Addr} {zs : List Int} (h : NumsAt k w a zs) (n : Nat) : NumsAt k w a (zs.take n) := fun h0 => by
  simp only [List.length_take] at h0
  obtain ⟨b, o, e, hc⟩ := h (by omega)
  refine ⟨b, o, e, fun j hj => ?_⟩
  simp only [List.length_take] at hj
  rw [hc j (by omega), List.getElem?_take_of_lt (by omega)]

end Go.Proofs.YtjhdlbcgnhkbhaaGreatDoor

namespace Go.Proofs.YtjhdlbcgnhkbhaaGreatDoor
open Go.RowKit

/-- Bytes that came in, as lists. -/
structure Came (c : Nat) (code : List Int) : Prop where
  cap : code.length ≤ c
  cap2 : c ≤ 9223372036854775807
  byte : ∀ i, 0 ≤ nth code i ∧ nth code i ≤ 255

end Go.Proofs.YtjhdlbcgnhkbhaaGreatDoor

namespace Go.Proofs.YtjhdlbcgnhkbhaaGreatDoor
open Go.RowKit

/-- Two tables of the call's own. -/
def TwoTabs (w0 : World) (l : List It) (e : Ending) (w' : World) : Prop :=
  ∃ (A B : Tab) (a b : Option Addr) (c d lo hi lo2 hi2 : Nat), e = .returned (.tuple #[tabV A a c, tabV B b d]) ∧ (1 ≤ A.zs.length ∧ A.zs.length ≤ 17) ∧ (1 ≤ B.zs.length ∧ B.zs.length ≤ 17) ∧
    St w0 w' (It.own lo hi a A.zs :: It.own lo2 hi2 b B.zs :: l)

theorem St.storeOwn {w0 w : World} {l : List It} {lo hi g : Nat} {zs : List Int} (h : St w0 w l) (n i : Nat) (hi' : i < zs.length) (hn : l[n]? = some (It.own lo hi (some ⟨g, 0, none⟩) zs)) (hf : Far (It.own lo hi (some ⟨g, 0, none⟩) zs) (l.eraseIdx n)) (hlo : w0.heap.size ≤ lo) (v : Int) :
    St w0 (w.setCell ⟨g, i, none⟩ (.int .i64 v)) (l.set n (It.own lo hi (some ⟨g, 0, none⟩) (zs.set i v))) := by
  have h5 := (h.owns n hn).set i hi' v
  rw [Nat.zero_add] at h5
  exact h.markAt (a := some ⟨g, 0, none⟩) (w' := w.setCell ⟨g, i, none⟩ (.int .i64 v)) ⟨rfl, rfl, rfl, by simp [World.setCell], fun k _ hk => Below.heap_setCell w ⟨g, i, none⟩ _ k (fun e => hk (by rw [e]; rfl))⟩ h5 n hn hf hlo

theorem St.set6 {w0 w : World} {l : List It} {b b2 : Nat} (h : St w0 w l) (hf : Far (It.box b #[] 0) l) (hf2 : Far (It.box b2 #[] 0) l) (hlo : w0.heap.size ≤ b) (hlo2 : w0.heap.size ≤ b2) (x y z x' y' z' : Value) :
    St w0 ((((((w.setCell ⟨b, 0, none⟩ x).setCell ⟨b, 1, none⟩ y).setCell ⟨b, 2, none⟩ z).setCell ⟨b2, 0, none⟩ x').setCell ⟨b2, 1, none⟩ y').setCell ⟨b2, 2, none⟩ z') l :=
  (h.set3Far hf hlo x y z).set3Far hf2 hlo2 x' y' z'

end Go.Proofs.YtjhdlbcgnhkbhaaGreatDoor

/-
  KeysIn.
-/
import Derived.Test.YtkdkdmjhhgllgaaGreatDoorLow
import Derived.Test.YtkdkdmjhhgllgaaGreatDoorMath
import Derived.Test.YtkdkdmjhhgllgaaGreatDoorShelf2
import Derived.Test.YtkdkdmjhhgllgaaGreatDoorSort
import Derived.Sort.OwnSortedInts
namespace Go.Proofs.YtkdkdmjhhgllgaaGreatDoor
open Go.RowKit Go.Shelf
attribute [local go_sem] Oper.semAt_some

/-- A list of integers of the call's own, and a truth. -/
def IntsRes (xs : List Int) (ok : Bool) (w : World) (e : Ending) (w' : World) : Prop :=
  ∃ a c, e = .returned (.tuple #[.slice a xs.length c, .bool ok]) ∧ OwnInts w' w.heap.size a xs ∧ Below w.heap.size w w'

def keysOf (T : Tab) : List Int := if validB T then sortU T.zs else []

theorem sortRow_any (base : Nat) (a : Option Addr) (m c : Nat) (xs : List Int) (w : World) (hrow : w.ownsRow base 3 1 (.slice a m c) xs.length (xs.map (Value.int .i64))) (hn : xs.length ≤ 1000) :
    Calls Tryz.prog 60 #[.slice a xs.length c] w fun e w' => e = .returned (.tuple #[]) ∧
      w'.ownsRow base 3 1 (.slice a xs.length c) xs.length ((xs.mergeSort fun x y => decide (x ≤ y)).map (Value.int .i64)) ∧ w.grownBy w' (Value.slice a m c).ownBlock := by
  rcases hrow.2 with ⟨hv, h0⟩ | ⟨g, cap, cur, hv, hg, hh, h1, h2, h3, ht⟩
  · cases hv
    have : xs = [] := List.eq_nil_of_length_eq_zero h0
    subst this
    refine (Tryz.slices_Sort_int_none none 0 w).mono ?_
    rintro e w' ⟨rfl, rfl⟩
    exact ⟨rfl, by simpa using hrow, ⟨rfl, rfl, rfl, Nat.le_refl _, fun _ _ _ => rfl⟩⟩
  · cases hv
    refine (Tryz.slices_Sort_int g 0 c xs w (holds_of_blockI hh (by simpa using ht)) (Array.getElem?_eq_some_iff.1 hh).1 (by omega)).mono ?_
    rintro e w' ⟨rfl, n, os, rfl⟩
    exact ⟨rfl, ownsRow_sortedI (by simp) hg hh h1 h2 h3, grownBy_sortedI _⟩

theorem ownsRow_weaken {w : World} {base base' : Nat} {e : TypeId} {size : Nat} {v : Value} {n : Nat} {xs : List Value} (h : w.ownsRow base e size v n xs) (hb : base' ≤ base) : w.ownsRow base' e size v n xs := by
  refine ⟨h.1, ?_⟩
  rcases h.2 with hn | ⟨g, cap, cur, hv, hg, rest⟩
  · exact .inl hn
  · exact .inr ⟨g, cap, cur, hv, Nat.le_trans hb hg, rest⟩

/-- Behind an append through a box: a block that is neither the row's nor the box's lies as it lay. -/
theorem KeepBlock.appended {W w1 : World} {B g LB : Nat} {e : TypeId} {v v' : Value} {k : Nat} {xs : List Value} {tmp : Obj} (hrow : W.ownsRow LB e 1 v k xs) (hgrow : (W.alloc tmp).grownBy w1 v.ownBlock) (hg : g < LB) (hgB : g ≠ B) (hgW : g < W.heap.size) :
    KeepBlock g W (w1.setCell ⟨B, 0, none⟩ v') := by
  have hz := hgrow.size
  refine ⟨by simp [World.setCell] at hz ⊢; omega, ?_⟩
  rw [Below.heap_setCell _ _ _ _ hgB, hgrow.block g (by simp; omega) (fun e => by have := (hrow.lt g e.symm).1; omega)]
  exact Below.heap_alloc W tmp g hgW

theorem ownsRow_other {w : World} {base : Nat} {e : TypeId} {size : Nat} {v : Value} {n k : Nat} {xs : List Value} {o : Obj} (h : w.ownsRow base e size v n xs) (hk : w.heap[k]? = some o) (ho : o.isCells = false) : v.ownBlock ≠ some k := by
  intro hv
  rcases h.2 with ⟨rfl, _⟩ | ⟨g, cap, cur, rfl, _, hg, _⟩
  · cases hv
  · cases hv
    rw [hg] at hk
    cases hk
    cases ho

theorem keep_put {W : World} {g l : Nat} {o : Obj} (h : g < l) : (W.putObj l o).heap[g]? = W.heap[g]? := by
  simp [World.putObj, Array.getElem?_setIfInBounds]
  intro e; omega

set_option maxRecDepth 100000 in
set_option maxHeartbeats 4000000 in
theorem KeysIn_any (T : Tab) (a : Option Addr) (c : Nat) (w : World) (hx : T.zs.length ≤ 9223372036854775807) (h1 : IntsAt w a T.zs) :
    Calls Tryz.prog 30 #[tabV T a c] w (IntsRes (keysOf T) (validB T) w) := by
  have S0 := ((St.start w).read h1).alloc #[.int .i64 T.t, .int .i64 T.p, .slice a T.zs.length c] 25
  obtain ⟨i0, hi, hz0, hz1, hz2⟩ := info_parts Tryz.info3
  have HI := Lib.hid hi; have HZ0 := Lib.hid hz0; have HZ1 := Lib.hid hz1; have HZ2 := Lib.hid hz2
  clear hi hz0 hz1 hz2
  cases hv : validB T
  · go_enter Tryz.func30, Tryz.ntmps30
    go_wp2_with fail
    refine (TableValid_any T a c _ hx (by exact S0.reads 1 rfl)).mono ?_
    rw [hv]
    rintro e w1 ⟨rfl, hb⟩
    have S1 := S0.below hb
    go_wp2
    go_ret2
    exact ⟨none, 0, by simp [keysOf, hv], by simp only [keysOf, hv]; exact OwnInts.nil _ _, S1.old⟩
  · obtain ⟨⟨l1, l2⟩, _, _, hgood⟩ := valid_facts hv
    have HV := Lib.hid hv
    have HG := Lib.hid hgood
    clear hv hgood
    refine (callsIn_wide (n := 9)).1 ?_
    refine callsIn_of_wp_marks Tryz.func30 rfl trivial ?_ rfl
    simp only [Tryz.ntmps30, List.size_toArray, List.length_cons, List.length_nil, Nat.reduceAdd, Nat.reduceSub, Array.replicate_succ, Array.replicate_zero, List.push_toArray, List.append_toArray, List.nil_append, List.cons_append]
    gi_wp2_with fail
    refine ⟨trivial, (callsIn_wide.2 (TableValid_any T a c _ hx (by exact S0.reads 1 rfl))).mono ?_⟩
    rw [HV.out]
    rintro e w1 ⟨rfl, hb⟩
    have hz1 : w.heap.size + 1 ≤ w1.heap.size := by have := hb.size; simpa using this
    have S1 := (S0.below hb).alloc #[.slice none 0 0] 23
    clear S0 hb
    obtain ⟨x0, x1, x2, x3, x4, x5, xz⟩ := facts3 (S1.cells 1 rfl)
    gi_wp2_with fail
    clear x0 x1 x2 x3 x4 x5 xz
    refine ⟨trivial, (callsIn_wide.2 (ringOf_any T a c _ (by exact S1.reads 2 rfl) HV.out)).mono ?_⟩
    rintro e w2 ⟨g, rfl, hg0, hg, hr, hb⟩
    have S2 := S1.below hb
    clear S1 hb
    gi_wp2_with fail
    refine ⟨trivial, (callsIn_wide.2 (ringKeys_any _ _ _ _)).mono ?_⟩
    rintro e w3 ⟨rfl, rfl⟩
    gi_wp2_with fail
    have z2 : w1.heap.size + 1 ≤ g := by simpa using hg0
    have bN := Boxed.new w2 70 (.slice (some ⟨g, 0, none⟩) T.zs.length T.zs.length)
    have bO : Boxed w2 w1.heap.size 23 (.slice none 0 0) := S2.cells 0 rfl
    refine wpIn_rangeFunc_ownG (n := 9) rfl (by omega) (gf := 74) (lb := #[.pointer (some ⟨w2.heap.size, 0, none⟩)]) rfl trivial (enters_of Tryz.func74 (by kernel_rfl) rfl)
      (ringKeys_stops 8 (by omega) w2.heap.size g T (by omega) _ (by simp; omega) (by simp) bN.cell (hr.below ((Below.refl _ w2).alloc (Nat.le_refl _) _) hg)) KeepBlock.trans (fun W l o o' hl h _ _ => ⟨by simp, keep_put (by simp at hl; omega)⟩) (Below.refl _ _) (fun _ => rfl)
      (fun pre W => (∃ v, Boxed W w1.heap.size 23 v ∧ W.ownsRow w2.heap.size 3 1 v pre.length (pre.map (Value.int .i64)) ∧ True) ∧ Below w.heap.size w2 W)
      (fun _ _ _ => False)
      (OwnFrom.and (Own.from (holdsRow_own w2.heap.size w1.heap.size 23 3 1 (fun pre : List Int => pre.length) (fun pre : List Int => pre.map (Value.int .i64)) (fun _ _ => True)) _) (ownFrom_below (by omega) (by simp; omega)))
      (fun _ _ _ _ _ hs _ _ => hs)
      ⟨⟨_, bO.alloc _, World.ownsRow_nil _ _ _ _, trivial⟩, (Below.refl _ w2).alloc (by omega) _⟩
      (fun x => { tmps := #[tabV T a c, .pointer (some ⟨w.heap.size, 0, none⟩), .slice none 0 0, .bool false, .pointer (some ⟨w1.heap.size, 0, none⟩), .int .i64 x, .agg #[.int .i64 T.t, .int .i64 T.p, .slice a T.zs.length c], .bool true, .bool false, .agg #[.int .i64 T.t, .int .i64 T.p, .slice a T.zs.length c], .slice (some ⟨g, 0, none⟩) T.zs.length T.zs.length, .func (.func 74) #[] #[.pointer (some ⟨w2.heap.size, 0, none⟩)], .int .i64 x, undef, undef, undef, undef, undef, undef, undef], defers := [] }) ?assign ?body ?done ?stop
    case assign =>
      intro l x W K hK
      gi_wp2
      exact hK
    case body =>
      rintro l pre x W ⟨⟨v, hv, hrow, _⟩, hB⟩ hlt
      have hc := hv.cell
      have hpl : pre.length ≤ 16 := by omega
      have hzW : w2.heap.size ≤ W.heap.size := hB.size
      gi_wp2_with (gi_at_builtin; refine wpListIn_append_own _ rfl _ _ 23 rfl w2.heap.size 3 i0 (.int .i64 0) 1 8 Tryz.underlying23 HI.out HZ0.out HZ1.out HZ2.out rfl (by decide) _ _ _ rfl (hrow.alloc _) ⟨W.heap.size, 0, none⟩ 1 1 [.int .i64 x] rfl rfl (cell_one_new _ _ _) (by simp [Value.oneCell']) (by unfold maxLen; omega) (by omega) (by simp; omega) ?_; intro v' w5 hown' hgrow _; obtain ⟨g', cap', rfl⟩ := ownsRow_succ hown'; obtain ⟨hv1, hv2, hr2, hk2, hb2⟩ := hv.appended (by decide) (ownsRow_weaken hrow (by omega : w.heap.size ≤ w2.heap.size)) (by omega) (by omega) (ownsRow_weaken hown' (by omega : w.heap.size ≤ w2.heap.size)) hgrow; have hc1 := hv1.cell; have hf1 := hv1.frozen; have hKB := KeepBlock.appended (B := w1.heap.size) (v' := .slice (some ⟨g', 0, none⟩) (pre.length + 1) cap') hrow hgrow hg (by omega) (by omega); have r5 := hown'.kept (grownBy_setCell' w5 w1.heap.size (.slice (some ⟨g', 0, none⟩) (pre.length + 1) cap')) (.inr (hv1.not_row (by decide) hown').symm))
      exact ⟨hk2.from _, hKB, ⟨_, hv2, by simpa using r5, trivial⟩, hB.trans hb2⟩
    case done =>
      rintro D ys W hD rfl ⟨⟨v, hv, hrow, _⟩, hB⟩ hK
      have hkl : (keysL T.zs).length ≤ 16 := by have := keysL_len T.zs T.zs.length; rw [List.take_length] at this; omega
      obtain ⟨a5, c5, rfl⟩ := ownsRow_slice hrow
      have hc := hv.cell
      gi_wp2_with fail
      refine ⟨trivial, (callsIn_wide.2 (sortRow_any _ a5 _ c5 _ _ hrow (by omega))).mono ?_⟩
      rintro e w5 ⟨rfl, hr5, hg5⟩
      have hv5 := hv.kept hg5 (hv.not_row (by decide) hrow)
      have hc5 := hv5.cell
      gi_wp2_with fail
      have hK5 : w5.heap[D]? = some (.deferred (some [])) := (hg5.block D (Array.getElem?_eq_some_iff.1 hK).1 (fun e => ownsRow_other hrow hK rfl e.symm)).trans hK
      have hs : ((keysL T.zs).mergeSort fun x y => decide (x ≤ y)) = sortU T.zs := sort_keys HG.out
      have hl : (keysL T.zs).length = (sortU T.zs).length := by rw [← hs]; simp
      rw [hs] at hr5
      have hr6 := ownsRow_putObj hr5 (.deferred none) hK5 rfl
      have hko : keysOf T = sortU T.zs := by simp [keysOf, HV.out]
      refine ⟨by simp, .inl ⟨_, _, rfl, run_takeDeferred hK5, ?_⟩⟩
      refine ⟨_, results_tmp2 rfl _ _ _, a5, c5, ?_, ?_, ?_⟩
      · rw [hko, ← hl]; rfl
      · rw [hko]
        rw [hl] at hr6
        exact ownsRow_ints (ownsRow_weaken hr6 (by omega))
      · have hzz := hB.size
        have hb5 : Below w.heap.size w w5 := (S2.old.trans hB).trans (grownBy_below hg5 (by omega) (fun k e => by have := (hrow.lt k e).1; omega))
        exact hb5.trans (belowK_b (w := w) (Nat.le_refl _) w5 D _ _ (by simp at hD; omega) hK5 rfl rfl)
    case stop =>
      rintro D c pre W _ _ h _
      exact h.elim

end Go.Proofs.YtkdkdmjhhgllgaaGreatDoor

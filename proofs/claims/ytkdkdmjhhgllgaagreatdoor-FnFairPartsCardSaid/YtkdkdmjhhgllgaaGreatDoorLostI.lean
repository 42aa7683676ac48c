/-
  The program's LostKeys and IsSound.
-/
import Derived.Test.YtkdkdmjhhgllgaaGreatDoorKeys
import Derived.Test.YtkdkdmjhhgllgaaGreatDoorFinds2All
import Derived.Test.YtkdkdmjhhgllgaaGreatDoorLooksAll
import Derived.Test.YtkdkdmjhhgllgaaGreatDoorLow
namespace Go.Proofs.YtkdkdmjhhgllgaaGreatDoor
open Go.RowKit Go.Shelf
attribute [local go_sem] Oper.semAt_some

/-- Items that all lie below B are kept by what keeps the blocks below B. -/
theorem St.low {w0 w w' : World} {l : List It} {B : Nat} (h : St w0 w l) (hb : Below B w w') (h0 : w0.heap.size ≤ B) (hi : ∀ i ∈ l, i.hi ≤ B) : St w0 w' l :=
  ⟨h.old.trans (hb.mono h0), fun i hm => ⟨Nat.le_trans (h.all i hm).1 hb.size, i.loc w w' (h.all i hm).1 hb.size (fun k _ hk => hb.block k (Nat.lt_of_lt_of_le hk (hi i hm))) (h.all i hm).2⟩⟩
theorem KeepsFrom.of_below {B : Nat} {W W' : World} (h : Below W.heap.size W W') : KeepsFrom B W W' :=
  ⟨h.size, fun k _ _ hk _ => (h.block k (Array.getElem?_eq_some_iff.1 hk).1).trans hk⟩
theorem sort_lost {zs : List Int} (h : Good zs zs.length) (p : Int → Bool) : (((zs.filter fun x => inB x 0 99).filter p).mergeSort fun x y => decide (x ≤ y)) = (sortU zs).filter p := by
  have hp := List.mergeSort_perm ((zs.filter fun x => inB x 0 99).filter p) (fun x y => decide (x ≤ y))
  have hs := List.pairwise_mergeSort (le := fun x y : Int => decide (x ≤ y)) (fun a b c h1 h2 => by simp at *; omega) (fun a b => by simp; omega) ((zs.filter fun x => inB x 0 99).filter p)
  have hu := sortU_pairwise zs
  have hperm : (zs.filter fun x => inB x 0 99).Perm (sortU zs) := by
    rw [← sort_keys h]
    exact (List.mergeSort_perm _ _).symm
  refine List.Perm.eq_of_pairwise (le := fun x y : Int => decide (x ≤ y) = true) (fun a b _ _ h1 h2 => ?_) hs ((hu.filter p).imp fun h => ?_) (hp.trans (hperm.filter p))
  · simp at h1 h2; omega
  · simp; omega

/-- The keys lost among some. -/
def lostL (T : Tab) (l : List Int) : List Int := l.filter fun k => decide (findI T k < 0)
theorem lostL_keep {T : Tab} {l : List Int} {x : Int} (h : 0 ≤ findI T x) : lostL T (l ++ [x]) = lostL T l := by simp [lostL]; omega
theorem lostL_new {T : Tab} {l : List Int} {x : Int} (h : findI T x < 0) : lostL T (l ++ [x]) = lostL T l ++ [x] := by simp [lostL, h]
theorem lostL_len (T : Tab) (l : List Int) : (lostL T l).length ≤ l.length := List.length_filter_le _ _


set_option maxRecDepth 100000 in
set_option maxHeartbeats 4000000 in
theorem LostKeys_any (T : Tab) (a : Option Addr) (c : Nat) (w : World) (hx : T.zs.length ≤ 9223372036854775807) (h1 : IntsAt w a T.zs) :
    Calls Tryz.prog 97 #[tabV T a c] w (IntsRes (lostOf T) (validB T) w) := by
  have S0 := ((St.start w).read h1).alloc #[.int .i64 T.t, .int .i64 T.p, .slice a T.zs.length c] 25
  obtain ⟨i0, hi, hz0, hz1, hz2⟩ := info_parts Tryz.info3
  have HI := Lib.hid hi; have HZ0 := Lib.hid hz0; have HZ1 := Lib.hid hz1; have HZ2 := Lib.hid hz2
  clear hi hz0 hz1 hz2
  cases hv : validB T
  · go_enter Tryz.func97, Tryz.ntmps97
    go_wp2_with fail
    refine (TableValid_any T a c _ hx (by exact S0.reads 1 rfl)).mono ?_
    rw [hv]
    rintro e w1 ⟨rfl, hb⟩
    have S1 := S0.below hb
    go_wp2
    go_ret2
    exact ⟨none, 0, by simp [lostOf, hv], by simp only [lostOf, hv]; exact OwnInts.nil _ _, S1.old⟩
  · obtain ⟨⟨l1, l2⟩, _, _, hgood⟩ := valid_facts hv
    have HV := Lib.hid hv
    have HG := Lib.hid hgood
    have HT0 := Lib.hid S0
    clear hv hgood
    refine (callsIn_wide (n := 9)).1 ?_
    refine callsIn_of_wp_marks Tryz.func97 rfl trivial ?_ rfl
    simp only [Tryz.ntmps97, List.size_toArray, List.length_cons, List.length_nil, Nat.reduceAdd, Nat.reduceSub, Array.replicate_succ, Array.replicate_zero, List.push_toArray, List.append_toArray, List.nil_append, List.cons_append]
    gi_wp2_with fail
    refine ⟨trivial, (callsIn_wide.2 (TableValid_any T a c _ hx (by exact S0.reads 1 rfl))).mono ?_⟩
    rw [HV.out]
    rintro e w1 ⟨rfl, hb⟩
    have hz1 : w.heap.size + 1 ≤ w1.heap.size := by have := hb.size; simpa using this
    have S1 := (S0.below hb).alloc #[.slice none 0 0] 23
    clear S0 hb
    obtain ⟨x0, x1, x2, x3, x4, x5, xz⟩ := facts3 (S1.cells 1 rfl)
    gi_wp2_with fail
    clear x0 x1 x2 x3 x4 x5 xz
    refine ⟨trivial, (callsIn_wide.2 (ringOf_any T a c _ (by exact S1.reads 2 rfl) HV.out)).mono ?_⟩
    rintro e w2 ⟨g, rfl, hg0, hg, hr, hb⟩
    have S2 := S1.below hb
    clear S1 hb
    gi_wp2_with fail
    refine ⟨trivial, (callsIn_wide.2 (ringKeys_any _ _ _ _)).mono ?_⟩
    rintro e w3 ⟨rfl, rfl⟩
    gi_wp2_with fail
    have z2 : w1.heap.size + 1 ≤ g := by simpa using hg0
    have bN := Boxed.new w2 70 (.slice (some ⟨g, 0, none⟩) T.zs.length T.zs.length)
    have bO : Boxed w2 w1.heap.size 23 (.slice none 0 0) := S2.cells 0 rfl
    have SL : Hid (St w w2 [It.box w.heap.size #[.int .i64 T.t, .int .i64 T.p, .slice a T.zs.length c] 25, It.read w.heap.size a T.zs]) := Lib.hid (S2.turn fun i hi => by
      simp only [List.mem_cons, List.not_mem_nil, or_false] at hi
      rcases hi with rfl | rfl <;> simp)
    have SLl : Hid (∀ i ∈ [It.box w.heap.size #[.int .i64 T.t, .int .i64 T.p, .slice a T.zs.length c] 25, It.read w.heap.size a T.zs], i.hi ≤ w.heap.size + 1) := Lib.hid (fun i hi => by
      simp only [List.mem_cons, List.not_mem_nil, or_false] at hi
      rcases hi with rfl | rfl <;> simp [It.box, It.read])
    refine wpIn_rangeFunc_ownG (n := 9) rfl (by omega) (gf := 74) (lb := #[.pointer (some ⟨w2.heap.size, 0, none⟩)]) rfl trivial (enters_of Tryz.func74 (by kernel_rfl) rfl)
      (ringKeysB_stops 8 (by omega) w2.heap.size g T (by omega) _ (by simp; omega) (by simp) bN.cell (hr.below ((Below.refl _ w2).alloc (Nat.le_refl _) _) hg)) KeepBlock.trans (fun W l o o' hl h _ _ => ⟨by simp, keep_put (by simp at hl; omega)⟩) (Below.refl _ _) (fun _ => rfl)
      (fun pre W => (∃ v, Boxed W w1.heap.size 23 v ∧ W.ownsRow w2.heap.size 3 1 v (lostL T (pre.map Subtype.val)).length ((lostL T (pre.map Subtype.val)).map (Value.int .i64)) ∧ True) ∧ Below (w.heap.size + 1) w2 W)
      (fun _ _ _ => False)
      (OwnFrom.and (Own.from (holdsRow_own w2.heap.size w1.heap.size 23 3 1 (fun pre : List KeyB => (lostL T (pre.map Subtype.val)).length) (fun pre : List KeyB => (lostL T (pre.map Subtype.val)).map (Value.int .i64)) (fun _ _ => True)) _) (ownFrom_below (by omega) (by simp; omega)))
      (fun _ _ _ _ _ hs _ _ => hs)
      ⟨⟨_, bO.alloc _, World.ownsRow_nil _ _ _ _, trivial⟩, (Below.refl _ w2).alloc (by omega) _⟩
      (fun x => { tmps := #[tabV T a c, .pointer (some ⟨w.heap.size, 0, none⟩), .slice none 0 0, .bool false, .pointer (some ⟨w1.heap.size, 0, none⟩), .int .i64 x.1, .agg #[.int .i64 T.t, .int .i64 T.p, .slice a T.zs.length c], .bool true, .bool false, .agg #[.int .i64 T.t, .int .i64 T.p, .slice a T.zs.length c], .slice (some ⟨g, 0, none⟩) T.zs.length T.zs.length, .func (.func 74) #[] #[.pointer (some ⟨w2.heap.size, 0, none⟩)], .int .i64 x.1, undef, undef, undef, undef, undef, undef, undef, undef, undef, undef, undef], defers := [] }) ?assign ?body ?done ?stop
    case assign =>
      intro l x W K hK
      gi_wp2
      exact hK
    case body =>
      rintro l pre x W ⟨⟨v, hv, hrow, _⟩, hB⟩ hlt
      have hzW : w2.heap.size ≤ W.heap.size := hB.size
      have SW := SL.out.low hB (by omega) SLl.out
      obtain ⟨x0, x1, x2, x3, x4, x5, xz⟩ := facts3 (SW.cells 0 rfl)
      obtain ⟨k0, k9⟩ := inB_iff.1 x.2
      have hll := lostL_len T (pre.map Subtype.val)
      rw [List.length_map] at hll
      have HE : Hid (∀ y, lostL T ((pre ++ [x]).map Subtype.val) = y ↔ lostL T (pre.map Subtype.val ++ [x.1]) = y) := Lib.hid (fun y => by simp)
      obtain ⟨xs, hxs⟩ : ∃ xs, lostL T (pre.map Subtype.val) = xs := ⟨_, rfl⟩
      rw [hxs] at hrow hll
      have HX := Lib.hid hxs
      clear hxs
      gi_wp2_with fail
      clear x0 x1 x2 x3 x4 x5 xz
      refine ⟨trivial, (CallsIn.inRound l (callsIn_wide.2 (finds_any T a c x.1 _ HV.out k0 k9 (SW.reads 1 rfl)))).mono ?_⟩
      rintro e w3 ⟨rfl, hb⟩
      have hv3 : Boxed w3 w1.heap.size 23 v := (hb.block _ hv.lt).trans hv
      have hrow3 := ownsRow_below hrow hb
      have hz3 := hb.size
      have hB3 := hB.trans (hb.mono (by omega : w.heap.size + 1 ≤ W.heap.size))
      have K3 : KeepsFrom (w2.heap.size + 1) W w3 := KeepsFrom.of_below hb
      have G3 : KeepBlock g W w3 := KeepBlock.of_below hb (by omega)
      clear hrow hv hB hb SW
      rcases Decidable.em (0 ≤ findI T x.1) with hf | hf
      · have hd : decide (0 ≤ findI T x.1) = true := by simpa using hf
        rw [hd]
        have HN : lostL T ((pre ++ [x]).map Subtype.val) = xs := (HE.out xs).2 ((lostL_keep hf).trans HX.out)
        have HN := Lib.hid HN
        gi_wp2_with fail
        exact ⟨by simpa using K3, G3, ⟨v, hv3, by rw [HN.out]; exact hrow3, trivial⟩, hB3⟩
      · have hd : decide (0 ≤ findI T x.1) = false := by simpa using hf
        rw [hd]
        have HN : lostL T ((pre ++ [x]).map Subtype.val) = xs ++ [x.1] := (HE.out _).2 ((lostL_new (by omega)).trans (by rw [HX.out]))
        have HN := Lib.hid HN
        have hc := hv3.cell
        clear hf hd
        gi_wp2_with (gi_at_builtin; refine wpListIn_append_own _ rfl _ _ 23 rfl w2.heap.size 3 i0 (.int .i64 0) 1 8 Tryz.underlying23 HI.out HZ0.out HZ1.out HZ2.out rfl (by decide) _ _ _ rfl (hrow3.alloc _) ⟨w3.heap.size, 0, none⟩ 1 1 [.int .i64 x.1] rfl rfl (cell_one_new _ _ _) (by simp [Value.oneCell']) (by unfold maxLen; omega) (by omega) (by simp; omega) ?_; intro v' w5 hown' hgrow _; obtain ⟨g', cap', rfl⟩ := ownsRow_succ hown'; obtain ⟨hv1, hv2, hr2, hk2, hb2⟩ := hv3.appended (by decide) (ownsRow_weaken hrow3 (by omega : w.heap.size + 1 ≤ w2.heap.size)) (by omega) (by omega) (ownsRow_weaken hown' (by omega : w.heap.size + 1 ≤ w2.heap.size)) hgrow; have hc1 := hv1.cell; have hf1 := hv1.frozen; have hKB := KeepBlock.appended (B := w1.heap.size) (v' := .slice (some ⟨g', 0, none⟩) (xs.length + 1) cap') hrow3 hgrow hg (by omega) (by omega); have r5 := hown'.kept (grownBy_setCell' w5 w1.heap.size (.slice (some ⟨g', 0, none⟩) (xs.length + 1) cap')) (.inr (hv1.not_row (by decide) hown').symm))
        exact ⟨by simpa using K3.trans (hk2.from _), G3.trans hKB, ⟨_, hv2, by rw [HN.out]; simpa using r5, trivial⟩, hB3.trans hb2⟩
    case done =>
      rintro D ys W hD hys ⟨⟨v, hv, hrow, _⟩, hB⟩ hK
      rw [hys] at hrow
      have hkl : (lostL T (keysL T.zs)).length ≤ 16 := by have := keysL_len T.zs T.zs.length; rw [List.take_length] at this; have := lostL_len T (keysL T.zs); omega
      obtain ⟨a5, c5, rfl⟩ := ownsRow_slice hrow
      have hc := hv.cell
      gi_wp2_with fail
      refine ⟨trivial, (callsIn_wide.2 (sortRow_any _ a5 _ c5 _ _ hrow (by omega))).mono ?_⟩
      rintro e w5 ⟨rfl, hr5, hg5⟩
      have hv5 := hv.kept hg5 (hv.not_row (by decide) hrow)
      have hc5 := hv5.cell
      gi_wp2_with fail
      have hK5 : w5.heap[D]? = some (.deferred (some [])) := (hg5.block D (Array.getElem?_eq_some_iff.1 hK).1 (fun e => ownsRow_other hrow hK rfl e.symm)).trans hK
      have hs : ((lostL T (keysL T.zs)).mergeSort fun x y => decide (x ≤ y)) = lostOf T := by
        rw [lostOf, if_pos HV.out]
        exact sort_lost HG.out _
      have hl : (lostL T (keysL T.zs)).length = (lostOf T).length := by rw [← hs]; simp
      rw [hs] at hr5
      have hr6 := ownsRow_putObj hr5 (.deferred none) hK5 rfl
      refine ⟨by simp, .inl ⟨_, _, rfl, run_takeDeferred hK5, ?_⟩⟩
      refine ⟨_, results_tmp2 rfl _ _ _, a5, c5, ?_, ?_, ?_⟩
      · rw [← hl]; rfl
      · rw [hl] at hr6
        exact ownsRow_ints (ownsRow_weaken hr6 (by omega))
      · have hzz := hB.size
        have hb5 : Below w.heap.size w w5 := (S2.old.trans (hB.mono (by omega))).trans (grownBy_below hg5 (by omega) (fun k e => by have := (hrow.lt k e).1; omega))
        exact hb5.trans (belowK_b (w := w) (Nat.le_refl _) w5 D _ _ (by simp at hD; omega) hK5 rfl rfl)
    case stop =>
      rintro D c pre W _ _ h _
      exact h.elim

theorem lostOf_len (T : Tab) : (lostOf T).length ≤ 1000 := by
  unfold lostOf
  split
  · have := sortTo_len T.zs 100
    have h2 := List.length_filter_le (fun k => decide (findI T k < 0)) (sortU T.zs)
    have h3 : (sortU T.zs).length = (sortTo T.zs 100).length := rfl
    omega
  · simp
theorem sound_iff (T : Tab) : soundB T = (validB T && ((lostOf T).length == 0)) := by
  unfold soundB
  cases lostOf T <;> simp

set_option maxHeartbeats 1000000 in
theorem IsSound_any (T : Tab) (a : Option Addr) (c : Nat) (w : World) (hx : T.zs.length ≤ 9223372036854775807) (h1 : IntsAt w a T.zs) :
    Calls Tryz.prog 71 #[tabV T a c] w fun e w' => e = .returned (.bool (soundB T)) ∧ Below w.heap.size w w' := by
  have S0 := ((St.start w).read h1).alloc #[.int .i64 T.t, .int .i64 T.p, .slice a T.zs.length c] 25
  have HS := Lib.hid (sound_iff T)
  obtain ⟨x0, x1, x2, x3, x4, x5, xz⟩ := facts3 (S0.cells 0 rfl)
  cases hv : validB T
  · go_enter Tryz.func71, Tryz.ntmps71
    go_wp2_with fail
    refine (LostKeys_any T a c _ hx (by exact S0.reads 1 rfl)).mono ?_
    rw [hv]
    rintro e w1 ⟨a1, c1, rfl, _, hb⟩
    have S1 := S0.below hb
    clear x0 x1 x2 x3 x4 x5 xz
    go_wp2
    go_ret
    exact ⟨by rw [HS.out, hv]; rfl, S1.old⟩
  · obtain ⟨m, hm⟩ : ∃ m, (lostOf T).length = m := ⟨_, rfl⟩
    go_enter Tryz.func71, Tryz.ntmps71
    go_wp2_with fail
    refine (LostKeys_any T a c _ hx (by exact S0.reads 1 rfl)).mono ?_
    rw [hv]
    unfold IntsRes
    rw [hm]
    rintro e w1 ⟨a1, c1, rfl, _, hb⟩
    have S1 := S0.below hb
    clear x0 x1 x2 x3 x4 x5 xz
    go_wp2
    go_ret
    have hmm : ((m : Int) == 0) = (m == 0) := by rw [Bool.eq_iff_iff]; simp
    exact ⟨by rw [HS.out, hv, hm, ← hmm]; rfl, S1.old⟩

end Go.Proofs.YtkdkdmjhhgllgaaGreatDoor

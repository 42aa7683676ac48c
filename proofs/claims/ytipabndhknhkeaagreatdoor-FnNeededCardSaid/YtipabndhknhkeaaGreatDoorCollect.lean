/-
  slices.Collect of an iterator over integers that writes no memory of others.
-/
import Derived.Test.YtipabndhknhkeaaGreatDoorKeys
namespace Go.Proofs.YtipabndhknhkeaaGreatDoor
open Go.RowKit Go.Shelf
attribute [local go_sem] Oper.semAt_some

/-- A list of integers of the call's own. -/
def ListRes (xs : List Int) (w : World) (e : Ending) (w' : World) : Prop :=
  ∃ a c, e = .returned (.slice a xs.length c) ∧ OwnInts w' w.heap.size a xs ∧ Below w.heap.size w w'

set_option maxRecDepth 100000 in
set_option maxHeartbeats 4000000 in
theorem AppendSeq_any (gf : Nat) (lb : Array Value) (g N : Nat) (ys : List Int) (w : World) (hg : g < w.heap.size) (hN : N ≤ 1000) (hyl : ys.length ≤ N)
    (eg : ∀ args w, (callFunc gf args).run Tryz.prog w = .ok (.enter gf args) w)
    (hseq : SeqStopsK Fence.wide 8 Tryz.prog gf lb (fun x : Int => #[Value.int .i64 x]) (KeepBlock g) (fun xs => xs = ys) (fun _ => True) N w) :
    Calls Tryz.prog 88 #[.slice none 0 0, .func (.func gf) #[] lb] w (ListRes ys w) := by
  obtain ⟨i0, hi, hz0, hz1, hz2⟩ := info_parts Tryz.info3
  have HI := Lib.hid hi; have HZ0 := Lib.hid hz0; have HZ1 := Lib.hid hz1; have HZ2 := Lib.hid hz2
  clear hi hz0 hz1 hz2
  refine (callsIn_wide (n := 9)).1 ?_
  refine callsIn_of_wp_marks Tryz.func88 rfl trivial ?_ rfl
  simp only [Tryz.ntmps88, List.size_toArray, List.length_cons, List.length_nil, Nat.reduceAdd, Nat.reduceSub, Array.replicate_succ, Array.replicate_zero, List.push_toArray, List.append_toArray, List.nil_append, List.cons_append]
  gi_wp2_with fail
  have bO := Boxed.new w 22 (.slice none 0 0)
  have hb : Below w.heap.size w (w.alloc (.cells #[.slice none 0 0] 22)) := (Below.refl _ w).alloc (Nat.le_refl _) _
  have hz := World.size_alloc w (.cells #[.slice none 0 0] 22)
  generalize w.alloc (.cells #[.slice none 0 0] 22) = w1 at bO hb hz ⊢
  refine wpIn_rangeFunc_ownG (n := 9) rfl (by omega) (gf := gf) (lb := lb) rfl trivial eg
    hseq KeepBlock.trans (fun W l o o' hl h _ _ => ⟨by simp, keep_put (by omega)⟩) hb (fun _ => rfl)
    (fun pre W => (∃ v, Boxed W w.heap.size 22 v ∧ W.ownsRow w1.heap.size 3 1 v pre.length (pre.map (Value.int .i64)) ∧ True) ∧ Below w.heap.size w1 W)
    (fun _ _ _ => False)
    (OwnFrom.and (Own.from (holdsRow_own w1.heap.size w.heap.size 22 3 1 (fun pre : List Int => pre.length) (fun pre : List Int => pre.map (Value.int .i64)) (fun _ _ => True)) _) (ownFrom_below (by omega) (by omega)))
    (fun _ _ _ _ _ hs _ _ => hs)
    ⟨⟨_, bO, World.ownsRow_nil _ _ _ _, trivial⟩, Below.refl _ w1⟩
    (fun x => { tmps := #[.slice none 0 0, .func (.func gf) #[] lb, .pointer (some ⟨w.heap.size, 0, none⟩), undef, .slice none 0 0, .int .i64 x, .func (.func gf) #[] lb, .int .i64 x, undef, undef, undef, undef, undef], defers := [] }) ?assign ?body ?done ?stop
  case assign =>
    intro l x W K hK
    gi_wp2
    exact hK
  case body =>
    rintro l pre x W ⟨⟨v, hv, hrow, _⟩, hB⟩ hlt
    have hc := hv.cell
    have hzW : w1.heap.size ≤ W.heap.size := hB.size
    gi_wp2_with (gi_at_builtin; refine wpListIn_append_own _ rfl _ _ 22 rfl w1.heap.size 3 i0 (.int .i64 0) 1 8 Tryz.underlying22 HI.out HZ0.out HZ1.out HZ2.out rfl (by decide) _ _ _ rfl (hrow.alloc _) ⟨W.heap.size, 0, none⟩ 1 1 [.int .i64 x] rfl rfl (cell_one_new _ _ _) (by simp [Value.oneCell']) (by unfold maxLen; omega) (by omega) (by simp; omega) ?_; intro v' w5 hown' hgrow _; obtain ⟨g', cap', rfl⟩ := ownsRow_succ hown'; obtain ⟨hv1, hv2, hr2, hk2, hb2⟩ := hv.appended (by decide) (ownsRow_weaken hrow (by omega : w.heap.size ≤ w1.heap.size)) (by omega) (by omega) (ownsRow_weaken hown' (by omega : w.heap.size ≤ w1.heap.size)) hgrow; have hc1 := hv1.cell; have hf1 := hv1.frozen; have hKB := KeepBlock.appended (B := w.heap.size) (v' := .slice (some ⟨g', 0, none⟩) (pre.length + 1) cap') hrow hgrow (show g < w1.heap.size by omega) (by omega) (by omega); have r5 := hown'.kept (grownBy_setCell' w5 w.heap.size (.slice (some ⟨g', 0, none⟩) (pre.length + 1) cap')) (.inr (hv1.not_row (by decide) hown').symm))
    exact ⟨hk2.from _, hKB, ⟨_, hv2, by simpa using r5, trivial⟩, hB.trans hb2⟩
  case done =>
    rintro D xs W hD rfl ⟨⟨v, hv, hrow, _⟩, hB⟩ hK
    obtain ⟨a5, c5, rfl⟩ := ownsRow_slice hrow
    have hc := hv.cell
    gi_wp2_with fail
    have hr6 := ownsRow_putObj hrow (.deferred none) hK rfl
    refine ⟨by simp, .inl ⟨_, _, rfl, run_takeDeferred hK, ?_⟩⟩
    refine ⟨_, results_tmp rfl _ _ _, a5, c5, rfl, ?_, ?_⟩
    · exact ownsRow_ints (ownsRow_weaken hr6 (by omega))
    · exact (hb.trans hB).trans (belowK_b (w := w) (Nat.le_refl _) W D _ _ (by omega) hK rfl rfl)
  case stop =>
    rintro D c pre W _ _ h _
    exact h.elim

set_option maxHeartbeats 1000000 in
theorem Collect_any (gf : Nat) (lb : Array Value) (g N : Nat) (ys : List Int) (w : World) (hg : g < w.heap.size) (hN : N ≤ 1000) (hyl : ys.length ≤ N)
    (eg : ∀ args w, (callFunc gf args).run Tryz.prog w = .ok (.enter gf args) w)
    (hseq : SeqStopsK Fence.wide 8 Tryz.prog gf lb (fun x : Int => #[Value.int .i64 x]) (KeepBlock g) (fun xs => xs = ys) (fun _ => True) N w) :
    Calls Tryz.prog 58 #[.func (.func gf) #[] lb] w (ListRes ys w) := by
  have HS := Lib.hid (AppendSeq_any gf lb g N ys w hg hN hyl eg hseq)
  clear hseq eg
  go_enter Tryz.func58, Tryz.ntmps58
  go_wp2_with fail
  refine HS.out.mono ?_
  rintro e w1 ⟨a, c, rfl, ho, hb⟩
  go_wp2
  go_ret
  exact ⟨a, c, rfl, ho, hb⟩

end Go.Proofs.YtipabndhknhkeaaGreatDoor

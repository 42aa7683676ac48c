/-
  slices.Collect of an iterator over integers that writes a block of others.
-/
import Derived.Test.YtpncpeokdcolpaaGreatDoorKeys
import Derived.Test.YtpncpeokdcolpaaGreatDoorMath
namespace Go.Proofs.YtpncpeokdcolpaaGreatDoor
open Go.RowKit Go.Shelf
attribute [local go_sem] Oper.semAt_some

theorem grow_trans {A B C : World} {g : Nat} {row : Option Nat} (h : A.grownBy B (some g)) (k : B.grownBy C row) (hr : ∀ r, row = some r → r = g ∨ A.heap.size ≤ r) : A.grownBy C (some g) :=
  ⟨k.os.trans h.os, k.tape.trans h.tape, k.output.trans h.output, Nat.le_trans h.size k.size, fun i h1 h2 => (k.block i (Nat.lt_of_lt_of_le h1 h.size) (fun e => by
    rcases hr i e.symm with c | c
    · exact h2 (by rw [c])
    · omega)).trans (h.block i h1 h2)⟩
theorem grow_of_below {A B : World} (h : Below A.heap.size A B) : A.grownBy B none := ⟨h.os, h.tape, h.output, h.size, fun k hk _ => h.block k hk⟩
theorem grow_of_below' {A B : World} {n : Nat} (h : Below n A B) : ∀ k, k < n → B.heap[k]? = A.heap[k]? := h.block
theorem grow_set (A : World) (g o : Nat) (v : Value) : A.grownBy (A.setCell ⟨g, o, none⟩ v) (some g) :=
  ⟨rfl, rfl, rfl, by simp [World.setCell], fun k _ hk => Below.heap_setCell A ⟨g, o, none⟩ v k (fun e => hk (by rw [e]))⟩

/-- What a collected list has: its own memory; and of the rest the block g alone may have been written. -/
def CollectRes (S : List Int → World → Prop) (gs : Nat) (w : World) (e : Ending) (w' : World) : Prop :=
  ∃ a c xs, e = .returned (.slice a xs.length c) ∧ OwnInts w' w.heap.size a xs ∧ S xs w' ∧ w.grownBy w' (some gs)

set_option maxRecDepth 100000 in
set_option maxHeartbeats 4000000 in
theorem AppendSeqW_any (gf : Nat) (lb : Array Value) (gs N : Nat) (S : List Int → World → Prop) (w : World) (hgs : gs < w.heap.size) (hN : N ≤ 1000)
    (hS : ∀ s A A', S s A → A'.heap[gs]? = A.heap[gs]? → A.heap.size ≤ A'.heap.size → S s A')
    (eg : ∀ args w, (callFunc gf args).run Tryz.prog w = .ok (.enter gf args) w)
    (hseq : SeqWrites Fence.wide 8 Tryz.prog gf lb gs w.heap.size N S w) :
    Calls Tryz.prog 147 #[.slice none 0 0, .func (.func gf) #[] lb] w (CollectRes S gs w) := by
  obtain ⟨i0, hi, hz0, hz1, hz2⟩ := info_parts Tryz.info3
  have HI := Lib.hid hi; have HZ0 := Lib.hid hz0; have HZ1 := Lib.hid hz1; have HZ2 := Lib.hid hz2
  clear hi hz0 hz1 hz2
  refine (callsIn_wide (n := 9)).1 ?_
  refine callsIn_of_wp_marks Tryz.func147 rfl trivial ?_ rfl
  simp only [Tryz.ntmps147, List.size_toArray, List.length_cons, List.length_nil, Nat.reduceAdd, Nat.reduceSub, Array.replicate_succ, Array.replicate_zero, List.push_toArray, List.append_toArray, List.nil_append, List.cons_append]
  gi_wp2_with fail
  have bO := Boxed.new w 22 (.slice none 0 0)
  have hb : Below w.heap.size w (w.alloc (.cells #[.slice none 0 0] 22)) := (Below.refl _ w).alloc (Nat.le_refl _) _
  have hz := World.size_alloc w (.cells #[.slice none 0 0] 22)
  generalize w.alloc (.cells #[.slice none 0 0] 22) = w1 at bO hb hz ⊢
  have hg1 : w.grownBy w1 (some gs) := ⟨hb.os, hb.tape, hb.output, hb.size, fun k hk _ => hb.block k hk⟩
  have HO : Own (fun (pre : List Int) W => ∃ v, Boxed W w.heap.size 22 v ∧ W.ownsRow w1.heap.size 3 1 v pre.length (pre.map (Value.int .i64)) ∧ True) := holdsRow_own w1.heap.size w.heap.size 22 3 1 (fun pre : List Int => pre.length) (fun pre : List Int => pre.map (Value.int .i64)) (fun _ _ => True)
  refine rangeW (n := 9) rfl (by omega) (gf := gf) (lb := lb) rfl trivial eg hseq hb (by omega) hgs rfl
    (fun pre W => (∃ v, Boxed W w.heap.size 22 v ∧ W.ownsRow w1.heap.size 3 1 v pre.length (pre.map (Value.int .i64)) ∧ True) ∧ w.grownBy W (some gs))
    (fun s A o v h => ?_) (fun s A A' h hb' => ⟨HO s A A' none h.1 (grow_of_below hb') (fun r e => by cases e), grow_trans h.2 (grow_of_below hb') (fun r e => by cases e)⟩)
    (fun s A l o o' h hl ho hc => ⟨HO s A _ (some l) h.1 (grownBy_putObj' A l o') (fun r e => by cases e; exact ⟨o, ho, hc⟩), grow_trans h.2 (grownBy_putObj' A l o') (fun r e => by cases e; right; omega)⟩)
    hS ⟨⟨_, bO, World.ownsRow_nil _ _ _ _, trivial⟩, hg1⟩
    (fun x => { tmps := #[.slice none 0 0, .func (.func gf) #[] lb, .pointer (some ⟨w.heap.size, 0, none⟩), undef, .slice none 0 0, .int .i64 x, .func (.func gf) #[] lb, .int .i64 x, undef, undef, undef, undef, undef], defers := [] }) ?assign ?body ?done
  · obtain ⟨⟨v', hv, hrow, _⟩, hg⟩ := h
    refine ⟨⟨v', hv.kept (grow_set A gs o v) (fun e => ?_), hrow.kept (grow_set A gs o v) (.inr fun e => ?_), trivial⟩, grow_trans hg (grow_set A gs o v) (fun r e => by cases e; exact .inl rfl)⟩
    · have := Option.some.inj e; omega
    · have := (hrow.lt gs e).1; omega
  case assign =>
    intro l x W K hK
    gi_wp2
    exact hK
  case body =>
    rintro l pre x W ⟨⟨v, hv, hrow, _⟩, hB⟩ hlt
    have hc := hv.cell
    have hzW : w1.heap.size ≤ W.heap.size := by
      have := hv.lt
      omega
    gi_wp2_with (gi_at_builtin; refine wpListIn_append_own _ rfl _ _ 22 rfl w1.heap.size 3 i0 (.int .i64 0) 1 8 Tryz.underlying22 HI.out HZ0.out HZ1.out HZ2.out rfl (by decide) _ _ _ rfl (hrow.alloc _) ⟨W.heap.size, 0, none⟩ 1 1 [.int .i64 x] rfl rfl (cell_one_new _ _ _) (by simp [Value.oneCell']) (by unfold maxLen; omega) (by omega) (by simp; omega) ?_; intro v' w5 hown' hgrow _; obtain ⟨g', cap', rfl⟩ := ownsRow_succ hown'; obtain ⟨hv1, hv2, hr2, hk2, hb2⟩ := hv.appended (by decide) (ownsRow_weaken hrow (by omega : w.heap.size ≤ w1.heap.size)) (by omega) (by omega) (ownsRow_weaken hown' (by omega : w.heap.size ≤ w1.heap.size)) hgrow; have hc1 := hv1.cell; have hf1 := hv1.frozen; have r5 := hown'.kept (grownBy_setCell' w5 w.heap.size (.slice (some ⟨g', 0, none⟩) (pre.length + 1) cap')) (.inr (hv1.not_row (by decide) hown').symm))
    refine ⟨hk2, hb2, ⟨_, hv2, by simpa using r5, trivial⟩, ⟨hb2.os.trans hB.os, hb2.tape.trans hB.tape, hb2.output.trans hB.output, Nat.le_trans hB.size hb2.size, fun k h1 h2 => (hb2.block k h1).trans (hB.block k h1 h2)⟩⟩
  case done =>
    rintro D xs W hD hlx hs ⟨⟨v, hv, hrow, _⟩, hB⟩ hK
    obtain ⟨a5, c5, rfl⟩ := ownsRow_slice hrow
    have hc := hv.cell
    gi_wp2_with fail
    have hr6 := ownsRow_putObj hrow (.deferred none) hK rfl
    refine ⟨by simp, .inl ⟨_, _, rfl, run_takeDeferred hK, ?_⟩⟩
    refine ⟨_, results_tmp rfl _ _ _, a5, c5, xs, rfl, ?_, ?_, ?_⟩
    · exact ownsRow_ints (ownsRow_weaken hr6 (by omega))
    · exact hS _ _ _ hs (World.putObj_heap_other (by omega)) (by simp)
    · exact grow_trans hB (grownBy_putObj' W D _) (fun r e => by cases e; right; omega)

set_option maxHeartbeats 1000000 in
theorem CollectW_any (gf : Nat) (lb : Array Value) (gs N : Nat) (S : List Int → World → Prop) (w : World) (hgs : gs < w.heap.size) (hN : N ≤ 1000)
    (hS : ∀ s A A', S s A → A'.heap[gs]? = A.heap[gs]? → A.heap.size ≤ A'.heap.size → S s A')
    (eg : ∀ args w, (callFunc gf args).run Tryz.prog w = .ok (.enter gf args) w)
    (hseq : SeqWrites Fence.wide 8 Tryz.prog gf lb gs w.heap.size N S w) :
    Calls Tryz.prog 125 #[.func (.func gf) #[] lb] w (CollectRes S gs w) := by
  have HS := Lib.hid (AppendSeqW_any gf lb gs N S w hgs hN hS eg hseq)
  clear hseq eg hS
  go_enter Tryz.func125, Tryz.ntmps125
  go_wp2_with fail
  refine HS.out.mono ?_
  rintro e w1 ⟨a, c, xs, rfl, ho, hs, hb⟩
  go_wp2
  go_ret
  exact ⟨a, c, xs, rfl, ho, hs, hb⟩

end Go.Proofs.YtpncpeokdcolpaaGreatDoor

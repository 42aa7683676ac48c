/-
  Ways around: the program's MeetAt.
-/
import Derived.RangeFuncBox
import Derived.RangeFuncNested
import Derived.RangeFuncBound
import Derived.RangeFuncCalls
import Derived.Shelf.Abstract
import Derived.Shelf.RegionOpen
import Derived.Test.YtddomanabcmnpaaBeside
import Derived.Test.YtddomanabcmnpaaWayS
namespace Go.Proofs.Ytddomanabcmnpaa
open Go.RowKit Go.Shelf
attribute [local go_sem] Oper.semAt_some

/-- A block apart from all items is written. -/
theorem St.apart {w0 w w' : World} {l : List It} {b : Nat} (h : St w0 w l) (hg : w.grownBy w' (some b)) (hf : Far (It.box b #[] 0) l) (hlo : w0.heap.size ≤ b) : St w0 w' l :=
  ⟨h.old.trans (grownBy_below hg h.old.size (fun k e => by cases e; exact hlo)), fun j hj => by
    have hj' := h.all j hj
    refine ⟨Nat.le_trans hj'.1 hg.size, j.loc w w' hj'.1 hg.size (fun k h1 h2 => hg.block k (by omega) (fun e => ?_)) hj'.2⟩
    cases e
    rcases hf.all j hj with h3 | h3
    · have : (It.box b #[] 0).lo = b := rfl
      omega
    · have : (It.box b #[] 0).hi = b + 1 := rfl
      omega⟩

theorem grownBy_cell1 (w : World) (b k : Nat) (v : Value) : w.grownBy (w.setCell ⟨b, k, none⟩ v) (some b) :=
  ⟨rfl, rfl, rfl, by simp [World.setCell], fun j _ hj => Below.heap_setCell _ _ _ j (fun e => hj (by rw [e]))⟩
theorem St.cellAt' {w0 w : World} {l : List It} {b : Nat} {x : Value} {t : TypeId} (h : St w0 w l) (n : Nat) (hn : l[n]? = some (It.box b #[x] t)) (_k : Nat) (v : Value)
    (hf : Far (It.box b #[x] t) (l.eraseIdx n)) (hlo : w0.heap.size ≤ b) : St w0 (w.setCell ⟨b, 0, none⟩ v) (l.set n (It.box b #[v] t)) :=
  h.boxBy n hn (grownBy_cell1 w b 0 v) (by have := h.cells n hn; simp [World.setCell, Array.getElem?_modify, this]) hf hlo

/-- What the loop's rounds hold. -/
abbrev meetIt (z k : Nat) : List It := [It.box (z + 1 + 1 + 1) #[.int .i64 k] 3, It.box z #[.int .i64 0] 3]
/-- The variables in a round. -/
abbrev meetA (N f o s t z : Nat) (x16 x17 x41 x42 : Value) : Act :=
  { tmps := #[.int .i64 N, .int .i64 f, .int .i64 o, .int .i64 s, .int .i64 t, undef, undef, undef, undef, undef, .pointer (some ⟨z, 0, none⟩), .pointer (some ⟨z + 1, 0, none⟩), .bool true, .pointer (some ⟨z + 1 + 1, 0, none⟩), .bool true,
      .pointer (some ⟨z + 1 + 1 + 1, 0, none⟩), x16, x17, .tuple #[.pointer (some ⟨z + 1, 0, none⟩), .bool true], .int .i64 N, .int .i64 o, .int .i64 f, .tuple #[.pointer (some ⟨z + 1, 0, none⟩), .bool true],
      .pointer (some ⟨z + 1, 0, none⟩), .bool true, .tuple #[.pointer (some ⟨z + 1 + 1, 0, none⟩), .bool true], .int .i64 N, .int .i64 t, .int .i64 s, .tuple #[.pointer (some ⟨z + 1 + 1, 0, none⟩), .bool true],
      .pointer (some ⟨z + 1 + 1, 0, none⟩), .bool true, .bool true, .bool false, .bool false, .bool true, .bool false, .bool false, .pointer (some ⟨z + 1, 0, none⟩), .pointer (some ⟨z + 1 + 1, 0, none⟩),
      .func (.func 58) #[] #[.pointer (some ⟨z + 1 + 1 + 1 + 1, 0, none⟩), .pointer (some ⟨z + 1 + 1 + 1 + 1 + 1, 0, none⟩)], x41, x42, undef, undef, undef, undef, undef, undef], defers := [] }

set_option maxRecDepth 100000 in
set_option maxHeartbeats 4000000 in
theorem MeetAt_yes (N f o s t : Nat) (w : World) (n1 : 1 ≤ N) (n2 : N ≤ 16) (ho : o ≤ 16) (ht : t ≤ 16) (hf : f < N) (hs : s < N) :
    Calls Try.prog 35 #[.int .i64 N, .int .i64 f, .int .i64 o, .int .i64 s, .int .i64 t] w fun e w' => e = .returned (.int .i64 (meetI N f o s t)) ∧ Below w.heap.size w w' := by
  have q1 : walkC N 0 o f 0 = #[wayV 0 o, .int .i64 N, .int .i64 f, .int .i64 0] := by unfold walkC; rw [atW_zero hf]; rfl
  have q2 : walkC N 0 t s 0 = #[wayV 0 t, .int .i64 N, .int .i64 s, .int .i64 0] := by unfold walkC; rw [atW_zero hs]; rfl
  have A1 : Hid (∀ w : World, Calls Try.prog 49 #[.int .i64 N, .int .i64 0, .int .i64 o, .int .i64 f] w fun e w' => e = .returned (.tuple #[.pointer (some ⟨w.heap.size, 0, none⟩), .bool true]) ∧ w' = w.alloc (.cells (walkC N 0 o f 0) 79)) :=
    Lib.hid fun w => by rw [q1]; exact walkerOn_yes N 0 o f w n1 n2 (by omega) ho hf
  have A2 : Hid (∀ w : World, Calls Try.prog 49 #[.int .i64 N, .int .i64 0, .int .i64 t, .int .i64 s] w fun e w' => e = .returned (.tuple #[.pointer (some ⟨w.heap.size, 0, none⟩), .bool true]) ∧ w' = w.alloc (.cells (walkC N 0 t s 0) 79)) :=
    Lib.hid fun w => by rw [q2]; exact walkerOn_yes N 0 t s w n1 n2 (by omega) ht hs
  clear q1 q2
  have S0 := ((((((St.start w).alloc #[.int .i64 0] 3).alloc (walkC N 0 o f 0) 79).alloc (walkC N 0 t s 0) 79).alloc #[.int .i64 0] 3).alloc #[.pointer (some ⟨w.heap.size + 1, 0, none⟩)] 63).alloc #[.pointer (some ⟨w.heap.size + 1 + 1, 0, none⟩)] 63
  simp only [World.size_alloc] at S0
  refine (callsIn_wide (n := 9)).1 ?_
  refine callsIn_of_wp_marks Try.func35 rfl trivial ?_ rfl
  simp only [Try.ntmps35, List.size_toArray, List.length_cons, List.length_nil, Nat.reduceAdd, Nat.reduceSub, Array.replicate_succ, Array.replicate_zero, List.push_toArray, List.append_toArray, List.nil_append, List.cons_append]
  gi_wp2_with fail
  refine ⟨trivial, ?_⟩
  refine (callsIn_wide.2 (A1.out _)).mono ?_
  rintro e w1 ⟨rfl, rfl⟩
  gi_wp2_with fail
  refine ⟨trivial, ?_⟩
  refine (callsIn_wide.2 (A2.out _)).mono ?_
  rintro e w1 ⟨rfl, rfl⟩
  gi_wp2_with fail
  refine ⟨trivial, ?_⟩
  refine (callsIn_wide.2 (beside_any _ _ _)).mono ?_
  rintro e w4 ⟨rfl, rfl⟩
  gi_wp2_with fail
  have hz4 : ((((((w.alloc (.cells #[.int .i64 0] 3)).alloc (.cells (walkC N 0 o f 0) 79)).alloc (.cells (walkC N 0 t s 0) 79)).alloc (.cells #[.int .i64 0] 3)).alloc (.cells #[.pointer (some ⟨w.heap.size + 1, 0, none⟩)] 63)).alloc (.cells #[.pointer (some ⟨w.heap.size + 1 + 1, 0, none⟩)] 63)).heap.size = w.heap.size + 6 := by simp
  generalize (((((w.alloc (.cells #[.int .i64 0] 3)).alloc (.cells (walkC N 0 o f 0) 79)).alloc (.cells (walkC N 0 t s 0) 79)).alloc (.cells #[.int .i64 0] 3)).alloc (.cells #[.pointer (some ⟨w.heap.size + 1, 0, none⟩)] 63)).alloc (.cells #[.pointer (some ⟨w.heap.size + 1 + 1, 0, none⟩)] 63) = W4 at S0 hz4 ⊢
  have c0 := (facts1 (S0.cells 0 rfl)).1
  have c1 := (facts1 (S0.cells 1 rfl)).1
  have S5 : St w W4 (meetIt w.heap.size 0) := S0.turn fun i hi => by
    simp only [List.mem_cons, List.not_mem_nil, or_false, meetIt] at hi ⊢
    rcases hi with rfl | rfl <;> simp
  refine rangeS (n := 9) rfl (by omega) (gf := 58) (lb := #[.pointer (some ⟨w.heap.size + 1 + 1 + 1 + 1, 0, none⟩), .pointer (some ⟨w.heap.size + 1 + 1 + 1 + 1 + 1, 0, none⟩)]) rfl trivial (enters_of Try.func58 (by kernel_rfl) rfl)
    (beside_writes 8 (by omega) (w.heap.size + 1 + 1 + 1 + 1) (w.heap.size + 1 + 1 + 1 + 1 + 1) (w.heap.size + 1) (w.heap.size + 1 + 1) W4.heap.size N f o s t n1 n2 ho ht W4 c1 c0 (S0.cells 4 rfl) (S0.cells 3 rfl) (by omega) (by omega) (by omega) (by omega) (by omega) (by omega) (by omega) (by omega) (by omega))
    FourKeep.trans (fun W l oo hl => FourKeep.of fun k hk => World.putObj_heap_other (by omega)) (Below.refl _ _) (Nat.le_refl _) (fun _ => rfl) ?wr
    (fun pre W => St w W (meetIt w.heap.size pre.length) ∧ (∀ j ∈ pre, atW N 0 o f j ≠ atW N 0 t s j))
    (fun pre W => ∃ pre' x, pre = pre' ++ [x] ∧ (∀ j ∈ pre', atW N 0 o f j ≠ atW N 0 t s j) ∧ atW N 0 o f x = atW N 0 t s x ∧ St w W [It.box w.heap.size #[.int .i64 pre'.length] 3])
    ?i1 ?i3 ?x3 ?i2 (fun x => meetA N f o s t w.heap.size (.int .i64 (atW N 0 o f x : Nat)) (.int .i64 (atW N 0 t s x : Nat)) (.int .i64 (atW N 0 o f x : Nat)) (.int .i64 (atW N 0 t s x : Nat))) ?assign ?body ?done ?stop
  case wr =>
    rintro A A' k oo (hg | hg) hk ho'
    · exact grownBy_rowOf hg (by simp; omega) ho'
    · exact grownBy_rowOf hg (by simp; omega) ho'
  case i1 =>
    rintro pre A A' ⟨h1, h2⟩ (hg | hg)
    · exact ⟨h1.apart hg (by simp [meetIt, Far, It.box]) (by omega), h2⟩
    · exact ⟨h1.apart hg (by simp [meetIt, Far, It.box]) (by omega), h2⟩
  case i3 =>
    rintro pre A l o1 o2 ⟨h1, h2⟩ hl _ _
    exact ⟨h1.apart (grownBy_putObj' A l o2) (by simp [meetIt, Far, It.box]; omega) (by omega), h2⟩
  case x3 =>
    rintro pre A l o1 o2 ⟨pre', x, e, h1, h2, h3⟩ hl _ _
    exact ⟨pre', x, e, h1, h2, h3.apart (grownBy_putObj' A l o2) (by simp [Far, It.box]; omega) (by omega)⟩
  case i2 =>
    intro o1 o2
    exact ⟨S5.below (((Below.refl _ _).alloc (Nat.le_refl _) _).alloc (by simp) _), fun j hj => by cases hj⟩
  case assign =>
    intro l x W K hK
    gi_wp2
    exact hK
  case body =>
    rintro l pre x W ⟨Sp, hno⟩ hlt
    have HN := Lib.hid hno
    clear hno
    obtain ⟨u0, u1, uz⟩ := facts1 (Sp.cells 0 rfl)
    obtain ⟨v0, v1, vz⟩ := facts1 (Sp.cells 1 rfl)
    have hpl : pre.length ≤ 16 := by omega
    have hx1 := atW_lt n1 0 o f x
    have hx2 := atW_lt n1 0 t s x
    by_cases he : atW N 0 o f x = atW N 0 t s x
    · have S7 := (Sp.cellAt' 1 rfl 0 (.int .i64 pre.length) (by simp [Far, It.box]) (by omega)).turn (l' := [It.box w.heap.size #[.int .i64 pre.length] 3]) fun i hi => by
        obtain rfl := List.mem_singleton.1 hi
        simp
      have HR := Lib.hid (show KeepsOthers W (W.setCell ⟨w.heap.size, 0, none⟩ (.int .i64 pre.length)) from KeepsOthers.setCell W _ _)
      have HE := Lib.hid he
      have hq : ((atW N 0 o f x : Nat) : Int) = ((atW N 0 t s x : Nat) : Int) := congrArg _ he
      have he2 : (((atW N 0 o f x : Nat) : Int) == ((atW N 0 t s x : Nat) : Int)) = true := by rw [he]; simp
      clear he hq
      gi_wp2_with fail
      exact ⟨HR.out, pre, x, rfl, HN.out, HE.out, S7⟩
    · have S7 := Sp.cellAt' 0 rfl 0 (.int .i64 ((pre ++ [x]).length : Nat)) (by simp [Far, It.box]) (by omega)
      have hl2 : (((pre ++ [x]).length : Nat) : Int) = (pre.length : Int) + 1 := by simp
      have HR := Lib.hid (show KeepsOthers W (W.setCell ⟨w.heap.size + 1 + 1 + 1, 0, none⟩ (.int .i64 ((pre.length : Int) + 1))) from KeepsOthers.setCell W _ _)
      have HK := Lib.hid (show FourKeep (w.heap.size + 1 + 1 + 1 + 1) (w.heap.size + 1 + 1 + 1 + 1 + 1) (w.heap.size + 1) (w.heap.size + 1 + 1) W (W.setCell ⟨w.heap.size + 1 + 1 + 1, 0, none⟩ (.int .i64 ((pre.length : Int) + 1))) from
        FourKeep.of fun k hk => Below.heap_setCell W _ _ k (by show k ≠ w.heap.size + 1 + 1 + 1; omega))
      rw [hl2] at S7
      have HS := Lib.hid S7
      have HE := Lib.hid he
      have he2 : (((atW N 0 o f x : Nat) : Int) == ((atW N 0 t s x : Nat) : Int)) = false := beq_eq_false_iff_ne.2 (by omega)
      clear he S7 hl2
      gi_wp2_with fail
      refine ⟨HR.out, HK.out, ?_, ?_⟩
      · rw [show (pre ++ [x]).length = pre.length + 1 by simp]
        exact HS.out
      · intro j hj
        rcases List.mem_append.1 hj with h | h
        · exact HN.out j h
        · obtain rfl := List.mem_singleton.1 h
          exact HE.out
  case done =>
    rintro D ys W hD rfl ⟨Sp, hno⟩ hK
    have hm := meetN_no (n := N) (f := f) (o := o) (s := s) (t := t) fun j hj => hno j (List.mem_range.2 hj)
    have RR := Lib.hid (meetI_none (asksW_of n1 n2 (show 0 ≤ 2 by omega) ho hf) (asksW_of n1 n2 (show 0 ≤ 2 by omega) ht hs) hm)
    have S9 := (Sp.cellAt' 1 rfl 0 (.int .i64 (-1)) (by simp [Far, It.box]) (by omega)).turn (l' := [It.box w.heap.size #[.int .i64 (-1)] 3]) fun i hi => by
      obtain rfl := List.mem_singleton.1 hi
      simp
    have hK' : (W.setCell ⟨w.heap.size, 0, none⟩ (.int .i64 (-1))).heap[D]? = some (.deferred (some [])) := (KeepsOthers.setCell W _ _).same D _ hK rfl
    obtain ⟨v0, v1, vz⟩ := facts1 (Sp.cells 1 rfl)
    clear hno hm
    gi_wp2_with fail
    have S10 := S9.apart (grownBy_putObj' _ D (.deferred none)) (by simp [Far, It.box]; omega) (by omega)
    refine ⟨by simp, .inl ⟨_, _, rfl, run_takeDeferred hK', ?_⟩⟩
    obtain ⟨a0, _, _⟩ := facts1 (S10.cells 0 rfl)
    exact ⟨.int .i64 (-1), by simp [results, Try.f35, Try.results35, go_sem, a0], by rw [RR.out], S10.old⟩
  case stop =>
    rintro D pre W hD ⟨k, hk, rfl⟩ ⟨pre', x, he, hno, heq, Sp⟩ hK
    have hlen : k = pre'.length + 1 := by have := congrArg List.length he; simpa using this
    have hpx : pre' = List.range pre'.length ∧ x = pre'.length := by
      rw [hlen, List.range_succ] at he
      have := List.append_inj he (by simp)
      exact ⟨this.1.symm, by simpa using this.2.symm⟩
    have hm : meetN N f o s t = pre'.length := meetN_at (by omega) (fun j hj => hno j (by rw [hpx.1]; exact List.mem_range.2 hj)) (by rw [← hpx.2]; exact heq)
    have RR := Lib.hid (meetI_yes (f := f) (o := o) (s := s) (t := t) (asksW_of n1 n2 (show 0 ≤ 2 by omega) ho hf) (asksW_of n1 n2 (show 0 ≤ 2 by omega) ht hs) (by rw [hm]; omega))
    rw [hm] at RR
    have RR2 := Lib.hid RR.out
    clear hm he hno heq RR hpx hlen
    gi_wp2_with fail
    have S10 := Sp.apart (grownBy_putObj' _ D (.deferred none)) (by simp [Far, It.box]; omega) (by omega)
    refine ⟨by simp, .inl ⟨_, _, rfl, run_takeDeferred hK, ?_⟩⟩
    obtain ⟨a0, _, _⟩ := facts1 (S10.cells 0 rfl)
    exact ⟨.int .i64 pre'.length, by simp [results, Try.f35, Try.results35, go_sem, a0], by rw [RR2.out], S10.old⟩

set_option maxHeartbeats 1000000 in
theorem MeetAt_any (n f o s t : Int) (w : World) :
    Calls Try.prog 35 #[.int .i64 n, .int .i64 f, .int .i64 o, .int .i64 s, .int .i64 t] w fun e w' => e = .returned (.int .i64 (meetI n f o s t)) ∧ Below w.heap.size w w' := by
  cases h1 : asksW n 0 o f
  · have R := Lib.hid (meetI_no (s := s) (t := t) (.inl h1))
    have A1 := Lib.hid fun w => walkerOn_no n 0 o f w h1
    have S0 := (St.start w).alloc #[.int .i64 (-1)] 3
    clear h1
    cases h2 : asksW n 0 t s
    · have A2 := Lib.hid fun w => walkerOn_no n 0 t s w h2
      have S1 := S0
      clear h2
      go_enter Try.func35, Try.ntmps35
      go_wp2_with fail
      refine (A1.out _).mono ?_
      rintro e w1 ⟨rfl, rfl⟩
      go_wp2_with fail
      refine (A2.out _).mono ?_
      rintro e w1 ⟨rfl, rfl⟩
      go_wp2
      obtain ⟨a0, _, _⟩ := facts1 (S1.cells 0 rfl)
      refine bodyPost_ret (v := .int .i64 (-1)) (by simp [results, Try.results35, go_sem, a0]) rfl ⟨by rw [R.out], S1.old⟩
    · obtain ⟨N, K, T, S, rfl, hK, rfl, rfl, n1, n2, _, hT, hS⟩ := asksW_nat h2
      have A2 : Hid (∀ w : World, Calls Try.prog 49 #[.int .i64 N, .int .i64 0, .int .i64 T, .int .i64 S] w fun e w' => e = .returned (.tuple #[.pointer (some ⟨w.heap.size, 0, none⟩), .bool true]) ∧ w' = w.alloc (.cells #[wayV 0 T, .int .i64 N, .int .i64 S, .int .i64 0] 79)) := Lib.hid fun w => walkerOn_yes N 0 T S w n1 n2 (by omega) hT hS
      have S1 := S0.alloc #[wayV 0 T, .int .i64 N, .int .i64 S, .int .i64 0] 79
      clear h2 hK
      go_enter Try.func35, Try.ntmps35
      go_wp2_with fail
      refine (A1.out _).mono ?_
      rintro e w1 ⟨rfl, rfl⟩
      go_wp2_with fail
      refine (A2.out _).mono ?_
      rintro e w1 ⟨rfl, rfl⟩
      go_wp2
      obtain ⟨a0, _, _⟩ := facts1 (S1.cells 1 rfl)
      refine bodyPost_ret (v := .int .i64 (-1)) (by simp [results, Try.results35, go_sem, a0]) rfl ⟨by rw [R.out], S1.old⟩
  · obtain ⟨N, K, O, F, rfl, hK, rfl, rfl, n1, n2, _, hO, hF⟩ := asksW_nat h1
    cases h2 : asksW (N : Int) 0 t s
    · have R := Lib.hid (meetI_no (f := (F : Int)) (o := (O : Int)) (.inr h2))
      have A1 : Hid (∀ w : World, Calls Try.prog 49 #[.int .i64 N, .int .i64 0, .int .i64 O, .int .i64 F] w fun e w' => e = .returned (.tuple #[.pointer (some ⟨w.heap.size, 0, none⟩), .bool true]) ∧ w' = w.alloc (.cells #[wayV 0 O, .int .i64 N, .int .i64 F, .int .i64 0] 79)) := Lib.hid fun w => walkerOn_yes N 0 O F w n1 n2 (by omega) hO hF
      have A2 := Lib.hid fun w => walkerOn_no N 0 t s w h2
      have S1 := ((St.start w).alloc #[.int .i64 (-1)] 3).alloc #[wayV 0 O, .int .i64 N, .int .i64 F, .int .i64 0] 79
      clear h1 h2 hK
      go_enter Try.func35, Try.ntmps35
      go_wp2_with fail
      refine (A1.out _).mono ?_
      rintro e w1 ⟨rfl, rfl⟩
      go_wp2_with fail
      refine (A2.out _).mono ?_
      rintro e w1 ⟨rfl, rfl⟩
      go_wp2
      obtain ⟨a0, _, _⟩ := facts1 (S1.cells 1 rfl)
      refine bodyPost_ret (v := .int .i64 (-1)) (by simp [results, Try.results35, go_sem, a0]) rfl ⟨by rw [R.out], S1.old⟩
    · obtain ⟨N', K', T, S, hN, hK', rfl, rfl, _, _, _, hT, hS⟩ := asksW_nat h2
      obtain rfl : N = N' := by omega
      exact MeetAt_yes N F O S T w n1 n2 hO hT hF hS

end Go.Proofs.Ytddomanabcmnpaa

/-
  spec.NewTable, and the exact law of NewTable.
-/
import Derived.Test.YtlhbddjaioodkaaLawValid
namespace Go.Proofs.Ytlhbddjaioodkaa
open Go.RowKit

set_option maxHeartbeats 400000 in
theorem specNewTable_no (n t p : Int) (w : World) (h : headB n t p = false) :
    Calls Try.prog 20 #[.int .i64 n, .int .i64 t, .int .i64 p] w fun e w' => e = .returned (.tuple #[tbl 0 0 none 0 0, .bool false]) ∧ Below w.heap.size w w' := by
  go_enter Try.func20, Try.ntmps20
  go_wp2_with (go_at_call 55; refine (l1Head_any _ _ _ _).mono ?_; rintro e w' ⟨rfl, rfl⟩)
  exact bodyPost_ret (v := .tuple #[tbl 0 0 none 0 0, .bool false]) (by simp [results, Try.results20, go_sem]) rfl ⟨rfl, (Below.refl _ _).alloc (Nat.le_refl _) _⟩

set_option maxHeartbeats 400000 in
theorem specNewTable_yes (n : Nat) (t p : Int) (w : World) (h : headB n t p = true) (hn : n ≤ 16) :
    Calls Try.prog 20 #[.int .i64 n, .int .i64 t, .int .i64 p] w fun e w' => ∃ a c, e = .returned (.tuple #[tbl t p a n c, .bool true]) ∧ OwnInts w' w.heap.size a (List.replicate n (-1)) ∧ Below w.heap.size w w' := by
  go_enter Try.func20, Try.ntmps20
  go_wp2_with (go_at_call 55; refine (l1Head_any _ _ _ _).mono ?_; rintro e w' ⟨rfl, rfl⟩)
  refine (l1Free_any n t p _ hn).mono ?_
  rintro e w' ⟨a, c, rfl, ho, hb, _⟩
  obtain ⟨q0, q1, q2, f0, f1, f2⟩ := cells3 (hb := hb) (b := w.heap.size) (by simp) (res3' w _ _ _ _)
  have ho' := Lib.hid (ho.mono (base' := w.heap.size + 1) (by simp))
  clear ho
  go_wp2
  refine bodyPost_ret (v := .tuple #[tbl t p a n c, .bool true]) (by simp [results, Try.results20, go_sem, q0, q1, q2]) rfl ⟨a, c, rfl, ?_, ?_⟩
  · exact (((ho'.out.setOther (p := ⟨w.heap.size, 0, none⟩) (by simp) _).setOther (p := ⟨w.heap.size, 1, none⟩) (by simp) _).setOther (p := ⟨w.heap.size, 2, none⟩) (by simp) _).mono (by simp)
  · exact set3 (((Below.refl _ _).alloc (Nat.le_refl _) _).trans (hb.mono (by simp))) (Nat.le_refl _) _ _ _

/-- A value that is a table of the call's own: its slots lie in blocks from base on. -/
def TabRes (T : Tab) (ok : Bool) (w : World) (e : Ending) (w' : World) : Prop :=
  ∃ a c, e = .returned (.tuple #[.agg #[.int .i64 T.t, .int .i64 T.p, .slice a T.zs.length c], .bool ok]) ∧ OwnInts w' w.heap.size a T.zs ∧ Below w.heap.size w w'

def newTab (n t p : Int) : Tab := if headB n t p then ⟨t, p, List.replicate n.toNat (-1)⟩ else ⟨0, 0, []⟩
theorem newTab_len (n t p : Int) : (newTab n t p).zs.length ≤ 16 := by
  unfold newTab
  split
  · rename_i h
    simp [headB, inB_iff] at h
    simp; omega
  · simp

theorem NewTable_any (n t p : Int) (w : World) : Calls Try.prog 19 #[.int .i64 n, .int .i64 t, .int .i64 p] w (TabRes (newTab n t p) (headB n t p) w) := by
  cases h : headB n t p
  · refine (NewTable_no n t p w h).mono ?_
    rintro e w' ⟨rfl, hb⟩
    refine ⟨none, 0, ?_, ?_, hb⟩
    · simp [newTab, h]
    · simp [newTab, h]; exact OwnInts.nil _ _
  · obtain ⟨h1, h2, h3⟩ := head_size h
    obtain ⟨hn1, hn2⟩ := inB_iff.1 h1
    obtain ⟨m, rfl⟩ : ∃ m : Nat, n = m := ⟨n.toNat, by omega⟩
    refine (NewTable_yes m t p w h1 h2 h3).mono ?_
    rintro e w' ⟨g, rfl, ho, hb⟩
    refine ⟨some ⟨g, 0, none⟩, m, ?_, ?_, hb⟩
    · simp [newTab, h]
    · simp only [newTab, h, if_true, Int.toNat_natCast]; exact ho

theorem specNewTable_any (n t p : Int) (w : World) : Calls Try.prog 20 #[.int .i64 n, .int .i64 t, .int .i64 p] w (TabRes (newTab n t p) (headB n t p) w) := by
  cases h : headB n t p
  · refine (specNewTable_no n t p w h).mono ?_
    rintro e w' ⟨rfl, hb⟩
    refine ⟨none, 0, ?_, ?_, hb⟩
    · simp [newTab, h]
    · simp [newTab, h]; exact OwnInts.nil _ _
  · obtain ⟨h1, _, _⟩ := head_size h
    obtain ⟨hn1, hn2⟩ := inB_iff.1 h1
    obtain ⟨m, rfl⟩ : ∃ m : Nat, n = m := ⟨n.toNat, by omega⟩
    refine (specNewTable_yes m t p w h (by omega)).mono ?_
    rintro e w' ⟨a, c, rfl, ho, hb⟩
    refine ⟨a, c, ?_, ?_, hb⟩
    · simp [newTab, h]
    · simp only [newTab, h, if_true, Int.toNat_natCast]; exact ho

theorem heldTable_marks (t p : Int) (a : Option Addr) (n c : Nat) (w : World) (hx : n ≤ 1073741824) (h1 : IntsAt w a ((List.range n).map (fun i : Nat => (1 : Int) + i))) :
    Calls Try.prog 39 #[.agg #[.int .i64 t, .int .i64 p, .slice a n c], .int .i64 1] w fun e w' => e = .returned (.int .i64 (1 + n)) ∧ Below w.heap.size w w' := by
  have hl : ((List.range n).map (fun i : Nat => (1 : Int) + i)).length = n := by simp
  have h := heldTable_any t p a c _ 1 w (by rw [hl]; exact hx) (by omega) (by omega) h1 (by
    intro j hj
    rw [hl] at hj
    simp [hj])
  rw [hl] at h
  exact h

set_option maxHeartbeats 1000000 in
theorem exactNew (n t p : Int) (w : World) :
    Calls Try.prog 9 #[.int .i64 n, .int .i64 t, .int .i64 p] w fun e w' => e = .returned (.bool true) ∧ Below w.heap.size w w' := by
  have hlen := newTab_len n t p
  have hspec := fun W => specNewTable_any n t p W
  have himpl := fun W => NewTable_any n t p W
  generalize newTab n t p = T at hlen hspec himpl
  generalize headB n t p = ok at hspec himpl
  have HS := Lib.hid hspec
  have HI := Lib.hid himpl
  clear hspec himpl
  have S0 := St.start w
  go_enter Try.func9, Try.ntmps9
  go_wp2_with fail
  refine (HS.out _).mono ?_
  rintro e w1 ⟨a0, c0, rfl, ho, hb⟩
  have S1 := (S0.below hb).own ho
  have z1 := hb.size
  clear S0 ho hb
  go_wp2_with fail
  refine (HI.out _).mono ?_
  rintro e w2 ⟨a1, c1, rfl, ho, hb⟩
  have S2 := (S1.alloc1 hb).own ho
  have z2 := hb.size
  simp only [World.size_alloc] at z2
  clear ho
  obtain ⟨x0, x1, x2, _, _, _, xz⟩ := facts3 (S2.cells 1 rfl)
  go_wp2_with fail
  clear x0 x1 x2 xz hb
  refine (eqTable_same T a1 a0 c1 c0 _ (by omega) (by exact (S2.alloc _ 25).ints 1 rfl) (by exact (S2.alloc _ 25).ints 3 rfl)).mono ?_
  rintro e w3 ⟨rfl, hb⟩
  have S3 := S2.alloc1 hb
  clear S1 S2 hb
  obtain ⟨x0, x1, x2, _, _, _, xz⟩ := facts3 (S3.cells 0 rfl)
  go_wp2_with fail
  clear x0 x1 x2 xz
  refine (markTable_any _ T.t T.p a1 c1 T.zs 1 _ (by omega) (by omega) (by omega) (by exact S3.owns 1 rfl)).mono ?_
  rintro e w4 ⟨rfl, ho, hg⟩
  have S4 := S3.markAt hg ho 1 rfl (by simp [Far, It.own, It.box, It.read] <;> omega) (by simp; omega)
  clear S3 ho hg
  obtain ⟨x0, x1, x2, _, _, _, xz⟩ := facts3 (S4.cells 0 rfl)
  go_wp2_with fail
  clear x0 x1 x2 xz
  refine (heldTable_marks T.t T.p a1 T.zs.length c1 _ (by omega) (by exact S4.ints 1 rfl)).mono ?_
  rintro e w5 ⟨rfl, hb⟩
  have S5 := S4.below hb
  clear S4 hb
  have t1 : decide ((1 : Int) + (T.zs.length : Int) < 0) = false := by simp; omega
  go_wp2_with fail
  refine (HI.out _).mono ?_
  rintro e w6 ⟨a2, c2, rfl, ho, hb⟩
  have S6 := (S5.below hb).own ho
  clear S5 ho hb
  obtain ⟨x0, x1, x2, _, _, _, xz⟩ := facts3 (S6.cells 3 rfl)
  go_wp2_with fail
  clear x0 x1 x2 xz
  refine (eqTable_same T a2 a0 c2 c0 _ (by omega) (by exact (S6.alloc _ 25).ints 1 rfl) (by exact (S6.alloc _ 25).ints 5 rfl)).mono ?_
  rintro e w7 ⟨rfl, hb⟩
  have S7 := S6.alloc1 hb
  clear S6 hb
  obtain ⟨x0, x1, x2, _, _, _, xz⟩ := facts3 (S7.cells 2 rfl)
  go_wp2_with fail
  clear x0 x1 x2 xz
  refine (heldTable_marks T.t T.p a1 T.zs.length c1 _ (by omega) (by exact S7.ints 3 rfl)).mono ?_
  rintro e w8 ⟨rfl, hb⟩
  have S8 := S7.below hb
  go_wp2_with fail
  go_ret
  exact ⟨rfl, S8.old⟩

theorem walkFnExactNewTable (w : World) (n : Int) (_ : (Lit.int .i64 n).wf = true) (t : Int) (_ : (Lit.int .i64 t).wf = true) (p : Int) (_ : (Lit.int .i64 p).wf = true) :
    Calls Try.prog 9 #[.int .i64 n, .int .i64 t, .int .i64 p] w fun e w' => e = .returned (.bool true) ∧ Below w.heap.size w w' := exactNew n t p w

end Go.Proofs.Ytlhbddjaioodkaa

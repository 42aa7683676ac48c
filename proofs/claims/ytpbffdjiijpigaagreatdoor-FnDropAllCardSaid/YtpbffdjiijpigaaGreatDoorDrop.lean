/-
  DropKey of the model.
-/
import Derived.Test.YtpbffdjiijpigaaGreatDoorShelf
import Derived.Test.YtpbffdjiijpigaaGreatDoorNew
import Derived.Test.YtpbffdjiijpigaaGreatDoorDrawn
import Derived.Test.YtpbffdjiijpigaaGreatDoorFindS
import Derived.Test.YtpbffdjiijpigaaGreatDoorLost
import Derived.Test.YtpbffdjiijpigaaGreatDoorMath
namespace Go.Proofs.YtpbffdjiijpigaaGreatDoor
open Go.RowKit

theorem dropRes_no {T : Tab} {key : Int} {w w' : World} (h : dropOk T key = false) (hb : Below w.heap.size w w') : TabRes (dropT T key) (dropOk T key) w (.returned (.tuple #[tbl 0 0 none 0 0, .bool false])) w' := by
  rw [h, dropT_no h]
  exact ⟨none, 0, rfl, OwnInts.nil _ _, hb⟩

set_option maxHeartbeats 2000000 in
theorem specDropKey_any (T : Tab) (a : Option Addr) (c : Nat) (key : Int) (w : World) (hx : T.zs.length ≤ 9223372036854775807) (h1 : IntsAt w a T.zs) :
    Calls Tryz.prog 14 #[tabV T a c, .int .i64 key] w (TabRes (dropT T key) (dropOk T key) w) := by
  have S0 := (((St.start w).read h1).alloc #[.int .i64 T.t, .int .i64 T.p, .slice a T.zs.length c] 25).alloc #[.int .i64 0, .int .i64 0, .slice none 0 0] 25
  rw [World.size_alloc] at S0
  obtain ⟨pl, hpl⟩ : ∃ p, findOf T key = p := ⟨_, rfl⟩
  by_cases hp : 0 ≤ pl
  · have d : decide (0 ≤ pl) = true := decide_eq_true hp
    cases hs : soundB T
    · have E : Hid (dropOk T key = false) := Lib.hid (by simp [dropOk, hs])
      go_enter Tryz.func14, Tryz.ntmps14
      go_wp2_with fail
      refine (specFindKey_any T a c key _ hx (by exact S0.reads 2 rfl)).mono ?_
      rw [hpl, d]
      rintro e w1 ⟨rfl, hb⟩
      have S1 := S0.below hb
      clear S0 hb
      obtain ⟨x0, x1, x2, x3, x4, x5, xz⟩ := facts3 (S1.cells 1 rfl)
      go_wp2_with fail
      refine (specIsSound_any T a c _ hx (by exact S1.reads 2 rfl)).mono ?_
      rw [hs]
      rintro e w2 ⟨rfl, hb⟩
      have S2 := S1.below hb
      clear S1 hb x0 x1 x2 x3 x4 x5 xz
      obtain ⟨x0, x1, x2, x3, x4, x5, xz⟩ := facts3 (S2.cells 0 rfl)
      go_wp2
      refine bodyPost_ret (v := .tuple #[tbl 0 0 none 0 0, .bool false]) (by simp [results, Tryz.results14, go_sem, x0, x1, x2, x3, x4, x5]) rfl (dropRes_no E.out ?_)
      exact set3 S2.old (by omega) _ _ _
    · have ok : dropOk T key = true := by simp [dropOk, hs, hpl, hp]
      obtain ⟨k, D⟩ := drop_says ok
      obtain rfl : pl = k := hpl.symm.trans D.find.1
      have hlt := D.lt
      have hn := (valid_facts D.val).1
      have E : Hid (dropOk T key = true ∧ dropT T key = putAt T k (-2)) := Lib.hid ⟨ok, D.eq.1⟩
      clear ok D
      go_enter Tryz.func14, Tryz.ntmps14
      go_wp2_with fail
      refine (specFindKey_any T a c key _ hx (by exact S0.reads 2 rfl)).mono ?_
      rw [hpl, d]
      rintro e w1 ⟨rfl, hb⟩
      have S1 := S0.below hb
      clear S0 hb
      obtain ⟨x0, x1, x2, x3, x4, x5, xz⟩ := facts3 (S1.cells 1 rfl)
      go_wp2_with fail
      refine (specIsSound_any T a c _ hx (by exact S1.reads 2 rfl)).mono ?_
      rw [hs]
      rintro e w2 ⟨rfl, hb⟩
      have S2 := S1.below hb
      clear S1 hb x0 x1 x2 x3 x4 x5 xz
      obtain ⟨x0, x1, x2, x3, x4, x5, xz⟩ := facts3 (S2.cells 1 rfl)
      go_wp2_with fail
      refine (l1Copy_any T a c _ hn.1 (by omega) (by exact S2.reads 2 rfl)).mono ?_
      rintro e w3 ⟨g, c', rfl, ho, hb⟩
      have z2 : w.heap.size + 1 < w2.heap.size := S2.sz 0 rfl
      have z3 := hb.size
      have S3 := (S2.below hb).own ho
      clear S2 hb ho x0 x1 x2 x3 x4 x5 xz
      have hg := (S3.owns 0 rfl).1 _ rfl
      simp only at hg
      obtain ⟨b', o', e, hc, hf⟩ := (S3.owns 0 rfl).2 (by omega)
      cases e
      have q := hc k hlt
      have f := hf k hlt
      rw [Nat.zero_add] at q f
      clear hc hf
      obtain ⟨x0, x1, x2, x3, x4, x5, xz⟩ := facts3 (S3.cells 1 rfl)
      have n1 : g ≠ w3.heap.size := by omega
      have n2 : g ≠ w.heap.size + 1 := by omega
      have n3 : w3.heap.size ≠ w.heap.size + 1 := by omega
      have k0 : (0 : Int) ≤ (k : Int) := by omega
      have k1 : (k : Int) < (T.zs.length : Int) := by omega
      have S4 := (((S3.turn (l' := [It.own w2.heap.size w3.heap.size (some ⟨g, 0, none⟩) T.zs]) fun i hi => by simp at hi; subst hi; simp).storeOwn 0 k hlt rfl trivial (by omega) (-2)).set3Far (b := w.heap.size + 1) ⟨.inr (by show w.heap.size + 1 + 1 ≤ w2.heap.size; omega), trivial⟩ (by omega) (.int .i64 T.t) (.int .i64 T.p) (.slice (some ⟨g, 0, none⟩) T.zs.length c')).alloc #[.int .i64 T.t, .int .i64 T.p, .slice (some ⟨g, 0, none⟩) T.zs.length c'] 25
      go_wp2
      have r0 : ((((w3.setCell ⟨g, k, none⟩ (.int .i64 (-2))).setCell ⟨w.heap.size + 1, 0, none⟩ (.int .i64 T.t)).setCell ⟨w.heap.size + 1, 1, none⟩ (.int .i64 T.p)).setCell ⟨w.heap.size + 1, 2, none⟩ (.slice (some ⟨g, 0, none⟩) T.zs.length c')).heap[w.heap.size + 1]? = some (.cells #[.int .i64 T.t, .int .i64 T.p, .slice (some ⟨g, 0, none⟩) T.zs.length c'] 25 (0, 0)) := by
        have h0 := (Below.heap_setCell w3 ⟨g, k, none⟩ (.int .i64 (-2)) (w.heap.size + 1) (by simp only; omega)).trans (S3.cells 1 rfl)
        exact setCell_at (setCell_at (setCell_at h0 0 _) 1 _) 2 _
      obtain ⟨r1, r2, r3, _⟩ := facts3 r0
      have o1 := fun (o : Obj) => Lib.cell?_alloc_some o r1
      have o2 := fun (o : Obj) => Lib.cell?_alloc_some o r2
      have o3 := fun (o : Obj) => Lib.cell?_alloc_some o r3
      refine bodyPost_ret (v := .tuple #[tabV (putAt T k (-2)) (some ⟨g, 0, none⟩) c', .bool true]) (by simp [results, Tryz.results14, go_sem, putAt, o1, o2, o3]) rfl ?_
      rw [E.out.1, E.out.2]
      exact ⟨_, c', rfl, (S4.owns 1 rfl).mono (by omega), S4.old⟩
  · have d : decide (0 ≤ pl) = false := decide_eq_false hp
    have E : Hid (dropOk T key = false) := Lib.hid (by simp only [dropOk, hpl, d]; rfl)
    go_enter Tryz.func14, Tryz.ntmps14
    go_wp2_with fail
    refine (specFindKey_any T a c key _ hx (by exact S0.reads 2 rfl)).mono ?_
    rw [hpl, d]
    rintro e w1 ⟨rfl, hb⟩
    have S1 := S0.below hb
    clear S0 hb
    obtain ⟨x0, x1, x2, x3, x4, x5, xz⟩ := facts3 (S1.cells 0 rfl)
    go_wp2
    refine bodyPost_ret (v := .tuple #[tbl 0 0 none 0 0, .bool false]) (by simp [results, Tryz.results14, go_sem, x0, x1, x2, x3, x4, x5]) rfl (dropRes_no E.out ?_)
    exact set3 S1.old (by omega) _ _ _

end Go.Proofs.YtpbffdjiijpigaaGreatDoor

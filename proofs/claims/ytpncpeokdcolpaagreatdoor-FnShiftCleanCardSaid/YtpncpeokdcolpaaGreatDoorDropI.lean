/-
  The program's DropKey.
-/
import Derived.Test.YtpncpeokdcolpaaGreatDoorDrop
import Derived.Test.YtpncpeokdcolpaaGreatDoorWithout
import Derived.Test.YtpncpeokdcolpaaGreatDoorFindI
import Derived.Test.YtpncpeokdcolpaaGreatDoorLostI
namespace Go.Proofs.YtpncpeokdcolpaaGreatDoor
open Go.RowKit

theorem OwnInts.single {w : World} {x : Int} : IntsAt (w.alloc (.cells #[.int .i64 x] 3)) (some ⟨w.heap.size, 0, none⟩) [x] := fun _ => ⟨_, _, rfl, fun j hj => by
  obtain rfl : j = 0 := by simpa using hj
  exact (facts1 (heap_alloc_new w _)).1⟩

theorem dropAt_len (T : Tab) (ks : List Int) : (dropAt T ks).zs.length = T.zs.length := dropL_len _ _
theorem dropT_len (T : Tab) (key : Int) : (dropT T key).zs.length ≤ 16 := by
  unfold dropT
  split
  · rename_i h
    obtain ⟨k, D⟩ := drop_says h
    rw [dropAt_len]
    exact (valid_facts D.val).1.2
  · simp

set_option maxHeartbeats 2000000 in
theorem DropKey_any (T : Tab) (a : Option Addr) (c : Nat) (key : Int) (w : World) (hx : T.zs.length ≤ 9223372036854775807) (h1 : IntsAt w a T.zs) (hL : Laid w) :
    Calls Tryz.prog 34 #[tabV T a c, .int .i64 key] w (TabRes (dropT T key) (dropOk T key) w) := by
  have S0 := (((St.start w).read h1).alloc #[.int .i64 T.t, .int .i64 T.p, .slice a T.zs.length c] 27).alloc #[.int .i64 0, .int .i64 0, .slice none 0 0] 27
  rw [World.size_alloc] at S0
  have L0 := Lib.hid (hL.below S0.old hL.pos)
  obtain ⟨pl, hpl⟩ : ∃ p, findOf T key = p := ⟨_, rfl⟩
  by_cases hp : 0 ≤ pl
  · have d : decide (0 ≤ pl) = true := decide_eq_true hp
    cases hs : soundB T
    · have E : Hid (dropOk T key = false) := Lib.hid (by simp [dropOk, hs])
      go_enter Tryz.func34, Tryz.ntmps34
      go_wp2_with fail
      refine (FindKey_any T a c key _ hx (by exact S0.reads 2 rfl) L0.out).mono ?_
      rw [hpl, d]
      rintro e w1 ⟨rfl, hb⟩
      have S1 := S0.below hb
      clear S0 hb
      obtain ⟨x0, x1, x2, x3, x4, x5, xz⟩ := facts3 (S1.cells 1 rfl)
      go_wp2_with fail
      refine (IsSound_any T a c _ hx (by exact S1.reads 2 rfl)).mono ?_
      rw [hs]
      rintro e w2 ⟨rfl, hb⟩
      have S2 := S1.below hb
      clear S1 hb x0 x1 x2 x3 x4 x5 xz
      obtain ⟨x0, x1, x2, x3, x4, x5, xz⟩ := facts3 (S2.cells 0 rfl)
      go_wp2
      refine bodyPost_ret (v := .tuple #[tbl 0 0 none 0 0, .bool false]) (by simp [results, Tryz.results34, go_sem, x0, x1, x2, x3, x4, x5]) rfl (dropRes_no E.out ?_)
      exact set3 S2.old (by omega) _ _ _
    · have ok : dropOk T key = true := by simp [dropOk, hs, hpl, hp]
      obtain ⟨k, D⟩ := drop_says ok
      have hn := (valid_facts D.val).1
      have E : Hid (dropOk T key = true ∧ dropT T key = dropAt T [key]) := Lib.hid ⟨ok, D.eq.2⟩
      clear ok D
      go_enter Tryz.func34, Tryz.ntmps34
      go_wp2_with fail
      refine (FindKey_any T a c key _ hx (by exact S0.reads 2 rfl) L0.out).mono ?_
      rw [hpl, d]
      rintro e w1 ⟨rfl, hb⟩
      have S1 := S0.below hb
      clear S0 hb
      obtain ⟨x0, x1, x2, x3, x4, x5, xz⟩ := facts3 (S1.cells 1 rfl)
      go_wp2_with fail
      refine (IsSound_any T a c _ hx (by exact S1.reads 2 rfl)).mono ?_
      rw [hs]
      rintro e w2 ⟨rfl, hb⟩
      have S2 := S1.below hb
      have z2 : w.heap.size + 1 < w2.heap.size := S2.sz 0 rfl
      clear S1 hb x0 x1 x2 x3 x4 x5 xz
      obtain ⟨x0, x1, x2, x3, x4, x5, xz⟩ := facts3 (S2.cells 1 rfl)
      have S3 := S2.alloc #[.int .i64 key] 3
      go_wp2_with fail
      refine (without_any T a c [key] (some ⟨w2.heap.size, 0, none⟩) 1 _ hn.1 hn.2 (by simp) (by exact S3.reads 3 rfl) OwnInts.single).mono ?_
      rintro e w3 ⟨g, c', rfl, ho, hb⟩
      have S4 := (S3.below hb).own ho
      clear S2 S3 hb ho x0 x1 x2 x3 x4 x5 xz
      simp only [World.size_alloc] at S4
      obtain ⟨x0, x1, x2, x3, x4, x5, xz⟩ := facts3 (S4.cells 2 rfl)
      go_wp2
      have S5 := (S4.turn (l' := [It.own (w2.heap.size + 1) w3.heap.size (some ⟨g, 0, none⟩) (dropAt T [key]).zs]) fun i hi => by simp at hi; subst hi; simp).set3Far (b := w.heap.size + 1) ⟨.inr (by show w.heap.size + 1 + 1 ≤ w2.heap.size + 1; omega), trivial⟩ (by omega) (.int .i64 (dropAt T [key]).t) (.int .i64 (dropAt T [key]).p) (.slice (some ⟨g, 0, none⟩) (dropAt T [key]).zs.length c')
      refine bodyPost_ret (v := .tuple #[tabV (dropAt T [key]) (some ⟨g, 0, none⟩) c', .bool true]) (by simp [results, Tryz.results34, go_sem, x0, x1, x2, x3, x4, x5]) rfl ?_
      rw [E.out.1, E.out.2]
      exact ⟨_, c', rfl, (S5.owns 0 rfl).mono (by omega), S5.old⟩
  · have d : decide (0 ≤ pl) = false := decide_eq_false hp
    have E : Hid (dropOk T key = false) := Lib.hid (by simp only [dropOk, hpl, d]; rfl)
    go_enter Tryz.func34, Tryz.ntmps34
    go_wp2_with fail
    refine (FindKey_any T a c key _ hx (by exact S0.reads 2 rfl) L0.out).mono ?_
    rw [hpl, d]
    rintro e w1 ⟨rfl, hb⟩
    have S1 := S0.below hb
    clear S0 hb
    obtain ⟨x0, x1, x2, x3, x4, x5, xz⟩ := facts3 (S1.cells 0 rfl)
    go_wp2
    refine bodyPost_ret (v := .tuple #[tbl 0 0 none 0 0, .bool false]) (by simp [results, Tryz.results34, go_sem, x0, x1, x2, x3, x4, x5]) rfl (dropRes_no E.out ?_)
    exact set3 S1.old (by omega) _ _ _

end Go.Proofs.YtpncpeokdcolpaaGreatDoor

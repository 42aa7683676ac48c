/-
  The program's FindKey.
-/
import Derived.Test.YtkdkdmjhhgllgaaGreatDoorLooksAll
import Derived.Test.YtkdkdmjhhgllgaaGreatDoorAs
namespace Go.Proofs.YtkdkdmjhhgllgaaGreatDoor
open Go.RowKit

/-- The variable of the package errors holds the type error. -/
def Laid (w : World) : Prop := w.cell? ⟨0, 0, none⟩ = some (.iface 131 (.agg #[.pointer (some ⟨1, 60, none⟩)]))
theorem Laid.pos {w : World} (h : Laid w) : 0 < w.heap.size := World.block_lt_of_cell? w _ h
theorem Laid.below {w w' : World} {B : Nat} (h : Laid w) (hb : Below B w w') (hB : 0 < B) : Laid w' := (World.cell?_of_block (a := ⟨0, 0, none⟩) (hb.block _ hB)).trans h

theorem as_found' (k s : Int) (o1 o2 : Value) (tb : Nat) (w : World) (hg : Laid w) (ht : w.heap[tb]? = some (.cells #[o1, o2] 65 (0, 0))) :
    Calls Tryz.prog 34 #[.iface 65 (.agg #[.int .i64 k, .int .i64 s]), .iface 67 (.pointer (some ⟨tb, 0, none⟩))] w fun ev w' => ev = .returned (.bool true) ∧ w'.cell? ⟨tb, 1, none⟩ = some (.int .i64 s) ∧ Below tb w w' := by
  refine (as_found k s o1 o2 tb w hg ht).mono ?_
  rintro e w' ⟨rfl, rfl⟩
  have htl : tb < w.heap.size := (Array.getElem?_eq_some_iff.1 ht).1
  have hB := fun (o1 o2 o3 o4 : Obj) => ((((Below.refl w.heap.size w).alloc (Nat.le_refl _) o1).alloc (by simp) o2).alloc (by simp; omega) o3).alloc (by simp; omega) o4
  refine ⟨rfl, ?_, ((((hB _ _ _ _).mono (Nat.le_of_lt htl)).setCell (Nat.le_refl _) _).setCell (Nat.le_refl _) _)⟩
  exact (facts2 (setCell_two (setCell_fst (((hB _ _ _ _).block tb htl).trans ht) _) _)).2.1

set_option maxHeartbeats 2000000 in
theorem FindKey_any (T : Tab) (a : Option Addr) (c : Nat) (key : Int) (w : World) (hx : T.zs.length ≤ 9223372036854775807) (h1 : IntsAt w a T.zs) (hL : Laid w) :
    Calls Tryz.prog 10 #[tabV T a c, .int .i64 key] w fun e w' => e = .returned (.tuple #[.int .i64 (findOf T key), .bool (decide (0 ≤ findOf T key))]) ∧ Below w.heap.size w w' := by
  have S0 := ((St.start w).read h1).alloc #[.int .i64 T.t, .int .i64 T.p, .slice a T.zs.length c] 25
  cases hv : (validB T && inB key 0 99)
  · go_enter Tryz.func10, Tryz.ntmps10
    go_wp2_with fail
    refine (canLook_any T a c key _ hx (by exact S0.reads 1 rfl)).mono ?_
    rw [hv]
    rintro e w1 ⟨rfl, hb⟩
    have S1 := S0.below hb
    go_wp2
    go_ret2
    exact ⟨by simp [findOf, hv], S1.old⟩
  · obtain ⟨v1, k0, k9⟩ := asked_yes hv
    go_enter Tryz.func10, Tryz.ntmps10
    go_wp2_with fail
    refine (canLook_any T a c key _ hx (by exact S0.reads 1 rfl)).mono ?_
    rw [hv]
    rintro e w1 ⟨rfl, hb⟩
    have S1 := S0.below hb
    clear S0 hb
    obtain ⟨x0, x1, x2, x3, x4, x5, xz⟩ := facts3 (S1.cells 0 rfl)
    go_wp2_with fail
    refine (look_any T a c key _ v1 k0 k9 (by exact S1.reads 1 rfl)).mono ?_
    rintro e w2 ⟨pl, ev, rfl, (⟨k, hk, rfl⟩ | ⟨hk, rfl, hpl⟩), hb⟩
    · have S2 := S1.below hb
      have R : Hid (findOf T key = (k : Int)) := Lib.hid (by rw [findOf, if_pos hv, hk])
      have LL := Lib.hid (hL.below S2.old hL.pos)
      clear x0 x1 x2 x3 x4 x5 xz hk hv
      have S3 := (S2.alloc #[.int .i64 (visN T key (homeN T key)), .int .i64 pl] 58).alloc #[.int .i64 0, .int .i64 0] 65
      have hz2 := S2.old.size
      go_wp2_with fail
      refine (as_found' key k _ _ (w2.heap.size + 1) _ (hL.below S3.old hL.pos) (by simpa using S3.cells 0 rfl)).mono ?_
      rintro e w3 ⟨rfl, hc, hb3⟩
      have hO := Lib.hid (S3.old.trans (hb3.mono (by omega)))
      clear S3 hb3
      go_wp2
      go_ret2
      exact ⟨by rw [R.out]; simp, hO.out⟩
    · have S2 := S1.below hb
      have R : Hid (findOf T key = -1) := Lib.hid (by rw [findOf, if_pos hv, hk])
      clear x0 x1 x2 x3 x4 x5 xz hk hpl hv
      have S3 := (S2.alloc #[.int .i64 (visN T key (homeN T key)), .int .i64 pl] 58).alloc #[.int .i64 0, .int .i64 0] 65
      go_wp2_with fail
      refine (as_none _ _).mono ?_
      rintro e w3 ⟨rfl, rfl⟩
      go_wp2
      go_ret2
      exact ⟨by rw [R.out]; rfl, S3.old⟩

end Go.Proofs.YtkdkdmjhhgllgaaGreatDoor

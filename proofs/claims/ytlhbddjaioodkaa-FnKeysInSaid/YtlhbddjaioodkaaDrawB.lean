/-
  What chapter 1 draws as arguments: DrawNewTable.
-/
import Derived.Test.YtlhbddjaioodkaaDrawA
namespace Go.Proofs.Ytlhbddjaioodkaa
open Go.RowKit

set_option maxHeartbeats 4000000 in
theorem DrawNewTable_any {w0 w : World} {l : List It} {a : Option Addr} {c bh : Nat} {code : List Int} (S : St w0 w (It.bytes bh a code :: l)) (h : Came c code) :
    Calls Try.prog 18 #[.slice a code.length c] w fun e w' => ∃ (x y z : Int), e = .returned (.tuple #[.int .i64 x, .int .i64 y, .int .i64 z]) ∧ (-1 ≤ x ∧ x ≤ 17) ∧ (-1 ≤ y ∧ y ≤ 16) ∧ (-1 ≤ z ∧ z ≤ 16) ∧
      St w0 w' l := by
  have hz := S.size
  have C := Came.open S h
  generalize code.length = n at C ⊢
  generalize code.take 2000 = cd at C
  go_enter Try.func18, Try.ntmps18
  go_wp2_with fail
  refine C.mono ?_
  rintro e w1 ⟨r, rfl, hr, ok, F, S1⟩
  have hr1 : r + 1 ≤ w1.heap.size := S1.sz 0 rfl
  have S2 := (S1.lit [5, 1, 16, 17, 0, -1, 8] 3).push
  simp only [List.map_cons, List.map_nil] at S2
  have F2 := F.push (p' := 0) (x := It.own w1.heap.size (w1.heap.size + 1) (some ⟨w1.heap.size, 0, none⟩) [5, 1, 16, 17, 0, -1, 8]) (.inl hr1)
  go_wp2_with fail
  refine (num_any S2 ok (by omega) F2 0 7 _ _ _ 7 _ rfl rfl (by simp) (by simp) (by omega)).mono ?_
  rintro e w2 ⟨i, hi, rfl, S3⟩
  have b1 := nth_all (P := fun x => -1 ≤ x ∧ x ≤ 17) (xs := [5, 1, 16, 17, 0, -1, 8]) (by decide) hi
  generalize nth [5, 1, 16, 17, 0, -1, 8] i = x at b1 ⊢
  have hr2 : r + 1 ≤ w2.heap.size := S3.sz 0 rfl
  have S4 := (S3.lit [1, 15, 16, 0, -1, 3] 3).push
  simp only [List.map_cons, List.map_nil] at S4
  have F3 := F2.push (p' := 0 + 1) (x := It.own w2.heap.size (w2.heap.size + 1) (some ⟨w2.heap.size, 0, none⟩) [1, 15, 16, 0, -1, 3]) (.inl hr2)
  go_wp2_with fail
  refine (num_any S4 ok (by omega) F3 0 6 _ _ _ 6 _ rfl rfl (by simp) (by simp) (by omega)).mono ?_
  rintro e w3 ⟨i2, hi2, rfl, S5⟩
  have b2 := nth_all (P := fun x => -1 ≤ x ∧ x ≤ 16) (xs := [1, 15, 16, 0, -1, 3]) (by decide) hi2
  generalize nth [1, 15, 16, 0, -1, 3] i2 = y at b2 ⊢
  have hr3 : r + 1 ≤ w3.heap.size := S5.sz 0 rfl
  have S6 := (S5.lit [0, 15, 16, -1, 2] 3).push
  simp only [List.map_cons, List.map_nil] at S6
  have F4 := F3.push (p' := 0 + 1 + 1) (x := It.own w3.heap.size (w3.heap.size + 1) (some ⟨w3.heap.size, 0, none⟩) [0, 15, 16, -1, 2]) (.inl hr3)
  go_wp2_with fail
  refine (num_any S6 ok (by omega) F4 0 5 _ _ _ 5 _ rfl rfl (by simp) (by simp) (by omega)).mono ?_
  rintro e w4 ⟨i3, hi3, rfl, S7⟩
  have b3 := nth_all (P := fun x => -1 ≤ x ∧ x ≤ 16) (xs := [0, 15, 16, -1, 2]) (by decide) hi3
  generalize nth [0, 15, 16, -1, 2] i3 = z at b3 ⊢
  go_wp2
  refine bodyPost_ret (v := .tuple #[.int .i64 x, .int .i64 y, .int .i64 z]) (by simp [results, Try.results18, go_sem]) rfl ?_
  exact ⟨x, y, z, rfl, b1, b2, b3, S7.turn fun i hi => by
    simp only [List.mem_cons]
    exact .inr (.inr (.inr (.inr (.inr hi))))⟩

end Go.Proofs.Ytlhbddjaioodkaa

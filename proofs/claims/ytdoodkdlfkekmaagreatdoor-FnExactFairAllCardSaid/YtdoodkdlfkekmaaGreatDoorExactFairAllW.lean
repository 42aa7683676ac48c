/-
  The exact law of FairAll: the walk.
-/
import Derived.Test.YtdoodkdlfkekmaaGreatDoorNew
import Derived.Test.YtdoodkdlfkekmaaGreatDoorExactSameW
import Derived.Test.YtdoodkdlfkekmaaGreatDoorIntsW
import Derived.Test.YtdoodkdlfkekmaaGreatDoorFairs2All
import Derived.Test.YtdoodkdlfkekmaaGreatDoorLow
namespace Go.Proofs.YtdoodkdlfkekmaaGreatDoor
open Go.RowKit

set_option maxHeartbeats 4000000 in
theorem walkFnExactFairAll (w : World) (T : Tab) (a : Option Addr) (c : Nat) (h : TabIn w T a) (ak : Option Addr) (lenk capk : Nat) (zk : List Int) (hk : IsRow .i64 w ak lenk capk zk) (hL : Laid w) :
    Calls Tryz.prog 6 #[tabV T a c, .slice ak lenk capk] w fun e w' => e = .returned (.bool true) ∧ Below w.heap.size w w' := by
  have hx := h.len
  obtain ⟨ks, rfl, hI, hKL, _⟩ := row_nums hk
  clear hk
  have S0 := (((St.start w).read hI.ints).read h.at_).alloc #[.int .i64 T.t, .int .i64 T.p, .slice a T.zs.length c] 24
  clear hI
  by_cases hks : ks.length ≤ 1048576
  · have t0 : decide ((1048576 : Int) < (ks.length : Int)) = false := by simp; omega
    have HS := Lib.hid fun (a : Option Addr) (c : Nat) (ak : Option Addr) (ck : Nat) (W : World) (h1 : IntsAt W a T.zs) (h2 : IntsAt W ak ks) => specFairAll_any T a c ks ak ck W hx hks h1 h2
    have HI := Lib.hid fun (a : Option Addr) (c : Nat) (ak : Option Addr) (ck : Nat) (W : World) (h1 : IntsAt W a T.zs) (h2 : IntsAt W ak ks) (hl : Laid W) => FairAll_any T a c ks ak ck W hx hks h1 h2 hl
    have hxl := fallT_len T ks
    generalize fallT T ks = U at HS HI hxl
    generalize fallOk T ks = ok at HS HI
    by_cases hs : T.zs.length ≤ 1048576
    · have t1 : decide ((1048576 : Int) - (T.zs.length : Int) < 0) = false := by simp; omega
      obtain ⟨x0, x1, x2, x3, x4, x5, xz⟩ := facts3 (S0.cells 0 rfl)
      go_enter Tryz.func6, Tryz.ntmps6
      go_wp2_with fail
      clear x0 x1 x2 x3 x4 x5 xz
      refine (szTable_ok T.t T.p a T.zs.length c 1048576 _ (by omega) (by omega)).mono ?_
      rintro e w1 ⟨rfl, hb⟩
      have S1 := S0.below hb
      have y1 := hb.size
      simp only [World.size_alloc] at y1
      clear S0 hb
      obtain ⟨x0, x1, x2, x3, x4, x5, xz⟩ := facts3 (S1.cells 0 rfl)
      go_wp2_with fail
      clear x0 x1 x2 x3 x4 x5
      refine (toTable_any T a c _ hs (by exact S1.reads 1 rfl)).mono ?_
      rintro e w2 ⟨a2, c2, rfl, ho, hb⟩
      have S2 := (S1.below hb).own ho
      have y2 := hb.size
      clear S1 hb ho
      go_wp2_with fail
      refine (toIntS_any ak capk ks _ hks (by exact S2.reads 3 rfl)).mono ?_
      rintro e w2k ⟨a2k, c2k, rfl, ho, hb⟩
      have S2k := (S2.below hb).own ho
      have y2k := hb.size
      clear S2 hb ho
      go_wp2_with fail
      refine (HS.out a2 c2 a2k c2k _ (by exact S2k.ints 1 rfl) (by exact S2k.ints 0 rfl)).mono ?_
      rintro e w3 ⟨a3, c3, rfl, ho, hb⟩
      have S3 := (S2k.below hb).own ho
      have y3 := hb.size
      clear S2k hb ho
      obtain ⟨x0, x1, x2, x3, x4, x5, _⟩ := facts3 (S3.cells 3 rfl)
      go_wp2_with fail
      clear x0 x1 x2 x3 x4 x5
      refine (toTable_any T a c _ hs (by exact (S3.alloc _ 27).reads 5 rfl)).mono ?_
      rintro e w4 ⟨a4, c4, rfl, ho, hb⟩
      have S4 := ((S3.alloc1 hb).own ho).alloc #[.int .i64 T.t, .int .i64 T.p, .slice a4 T.zs.length c4] 27
      have y4 := hb.size
      simp only [World.size_alloc] at y4
      clear S3 hb ho
      go_wp2_with fail
      refine (toIntS_any ak capk ks _ hks (by exact S4.reads 8 rfl)).mono ?_
      rintro e w4k ⟨a4k, c4k, rfl, ho, hb⟩
      have S4k := (S4.below hb).own ho
      have y4k := hb.size
      simp only [World.size_alloc] at y4k S4k
      clear S4 hb ho
      obtain ⟨x0, x1, x2, x3, x4, x5, _⟩ := facts3 (S4k.cells 1 rfl)
      go_wp2_with fail
      clear x0 x1 x2 x3 x4 x5
      refine (HI.out a4 c4 a4k c4k _ (by exact S4k.ints 2 rfl) (by exact S4k.ints 0 rfl) (hL.below S4k.old hL.pos)).mono ?_
      rintro e w5 ⟨a5, c5, rfl, ho, hb⟩
      have S5 := (S4k.below hb).own ho
      have y5 := hb.size
      clear S4k hb ho
      obtain ⟨x0, x1, x2, x3, x4, x5, _⟩ := facts3 (S5.cells 4 rfl)
      go_wp2_with fail
      clear x0 x1 x2 x3 x4 x5
      refine (eqTable_same U a5 a3 c5 c3 _ (by omega) (by exact (S5.alloc _ 27).ints 1 rfl) (by exact (S5.alloc _ 27).ints 6 rfl)).mono ?_
      rintro e w6 ⟨rfl, hb⟩
      have S6 := S5.alloc1 hb
      have y6 := hb.size
      simp only [World.size_alloc] at y6
      clear S5 hb
      obtain ⟨x0, x1, x2, x3, x4, x5, _⟩ := facts3 (S6.cells 9 rfl)
      obtain ⟨v0, v1, v2, v3, v4, v5, _⟩ := facts3 (S6.cells 3 rfl)
      go_wp2_with fail
      go_region_held3 (fun w' => w'.cell? ⟨w.heap.size, 0, none⟩ = some (.int .i64 T.t) ∧ w'.cell? ⟨w.heap.size, 1, none⟩ = some (.int .i64 T.p) ∧ w'.cell? ⟨w.heap.size, 2, none⟩ = some (.slice a T.zs.length c) ∧
          w'.cell? ⟨w4.heap.size, 0, none⟩ = some (.int .i64 T.t) ∧ w'.cell? ⟨w4.heap.size, 1, none⟩ = some (.int .i64 T.p) ∧ w'.cell? ⟨w4.heap.size, 2, none⟩ = some (.slice a4 T.zs.length c4))
        (first
          | exact ⟨x0, x1, x2, v0, v1, v2⟩
          | exact S7.six 10 4 rfl rfl
          | exact S8.six 10 4 rfl rfl)
        (first
          | (go_at_call 13; refine (toTable_any T a c _ hs (by exact S6.drew.reads 10 rfl)).mono ?_; rintro e w7 ⟨a7, c7, rfl, ho, hb⟩; have S7 := (S6.drew.below hb).own ho; have y7 : w6.heap.size ≤ w7.heap.size := hb.size; clear ho hb)
          | (go_at_call 15; refine (eqTable_same T a4 a7 c4 c7 _ (by omega) (by exact S7.ints 5 rfl) (by exact S7.ints 0 rfl)).mono ?_; rintro e w8 ⟨rfl, hb⟩; have S8 := S7.below hb; have y8 : w7.heap.size ≤ w8.heap.size := hb.size; clear hb))
      clear x0 x1 x2 x3 x4 x5 v0 v1 v2 v3 v4 v5 S6 S7
      go_wp2_with fail
      refine (toIntS_any ak capk ks _ hks (by exact S8.reads 12 rfl)).mono ?_
      rintro e w9 ⟨a9k, c9k, rfl, ho, hb⟩
      have S9 := (S8.below hb).own ho
      have y9 := hb.size
      clear S8 hb ho
      go_wp2_with fail
      refine (eqIntS_same ks a4k a9k c4k c9k _ (by omega) (by exact S9.ints 4 rfl) (by exact S9.ints 0 rfl)).mono ?_
      rintro e w10 ⟨rfl, hb⟩
      have S10 := S9.below hb
      have y10 := hb.size
      clear S9 hb
      obtain ⟨x0, x1, x2, x3, x4, x5, _⟩ := facts3 (S10.cells 5 rfl)
      go_wp2_with fail
      clear x0 x1 x2 x3 x4 x5
      refine (markTable_any _ T.t T.p a4 c4 T.zs 1 _ (by omega) (by omega) (by omega) (by exact S10.owns 6 rfl)).mono ?_
      rintro e w11 ⟨rfl, ho, hg⟩
      have S11 := S10.markAt hg ho 6 rfl (by simp [Far, It.own, It.box, It.read] <;> omega) (by first | omega | (rw [World.size_alloc]; omega))
      clear S10 ho hg
      go_wp2_with fail
      refine (markIntS_any _ a4k c4k ks (1 + (T.zs.length : Int)) _ (by omega) (by omega) (by omega) (by exact S11.owns 4 rfl)).mono ?_
      rintro e w12 ⟨rfl, ho, hg⟩
      have S12 := S11.markAt hg ho 4 rfl (by simp [Far, It.own, It.box, It.read] <;> omega) (by first | omega | (rw [World.size_alloc]; omega))
      clear S11 ho hg
      have t2 : decide ((1 : Int) + (T.zs.length : Int) + (ks.length : Int) < 0) = false := by simp; omega
      obtain ⟨x0, x1, x2, x3, x4, x5, _⟩ := facts3 (S12.cells 2 rfl)
      obtain ⟨v0, v1, v2, v3, v4, v5, _⟩ := facts3 (S12.cells 7 rfl)
      go_wp2_with fail
      clear x0 x1 x2 x3 x4 x5 v0 v1 v2 v3 v4 v5
      refine (eqTable_same U a5 a3 c5 c3 _ (by omega) (by exact S12.ints 3 rfl) (by exact S12.ints 8 rfl)).mono ?_
      rintro e w13 ⟨rfl, hb⟩
      have S13 := S12.below hb
      clear S12 hb
      obtain ⟨x0, x1, x2, x3, x4, x5, _⟩ := facts3 (S13.cells 2 rfl)
      go_wp2_with fail
      clear x0 x1 x2 x3 x4 x5
      refine (markTable_any _ U.t U.p a5 c5 U.zs 1 _ (by omega) (by omega) (by omega) (by exact S13.owns 3 rfl)).mono ?_
      rintro e w14 ⟨rfl, ho, hg⟩
      have S14 := S13.markAt hg ho 3 rfl (by simp [Far, It.own, It.box, It.read] <;> omega) (by first | omega | (rw [World.size_alloc]; omega))
      clear S13 ho hg
      have t3 : decide ((1 : Int) + (U.zs.length : Int) < 0) = false := by simp; omega
      obtain ⟨x0, x1, x2, x3, x4, x5, _⟩ := facts3 (S14.cells 2 rfl)
      go_wp2_with fail
      clear x0 x1 x2 x3 x4 x5
      refine (heldTable_marks U.t U.p a5 U.zs.length c5 _ (by omega) (by exact S14.ints 3 rfl)).mono ?_
      rintro e w15 ⟨rfl, hb⟩
      have S15 := S14.below hb
      clear S14 hb
      obtain ⟨x0, x1, x2, x3, x4, x5, _⟩ := facts3 (S15.cells 11 rfl)
      go_wp2_with fail
      clear x0 x1 x2 x3 x4 x5
      refine (toTable_any T a c _ hs (by exact S15.reads 12 rfl)).mono ?_
      rintro e w16 ⟨a13, c13, rfl, ho, hb⟩
      have S16 := (S15.below hb).own ho
      clear S15 ho hb
      go_wp2_with fail
      refine (toIntS_any ak capk ks _ hks (by exact S16.reads 14 rfl)).mono ?_
      rintro e w17 ⟨a13k, c13k, rfl, ho, hb⟩
      have S17 := (S16.below hb).own ho
      clear S16 ho hb
      go_wp2_with fail
      refine (HI.out a13 c13 a13k c13k _ (by exact S17.ints 1 rfl) (by exact S17.ints 0 rfl) (hL.below S17.old hL.pos)).mono ?_
      rintro e w18 ⟨a14, c14, rfl, ho, hb⟩
      have S18 := (S17.below hb).own ho
      clear S17 ho hb
      obtain ⟨x0, x1, x2, x3, x4, x5, _⟩ := facts3 (S18.cells 10 rfl)
      go_wp2_with fail
      clear x0 x1 x2 x3 x4 x5
      refine (eqTable_same U a14 a3 c14 c3 _ (by omega) (by exact (S18.alloc _ 27).ints 1 rfl) (by exact (S18.alloc _ 27).ints 12 rfl)).mono ?_
      rintro e w19 ⟨rfl, hb⟩
      have S19 := S18.alloc1 hb
      clear S18 hb
      obtain ⟨x0, x1, x2, x3, x4, x5, _⟩ := facts3 (S19.cells 6 rfl)
      go_wp2_with fail
      clear x0 x1 x2 x3 x4 x5
      refine (heldTable_marks U.t U.p a5 U.zs.length c5 _ (by omega) (by exact S19.ints 7 rfl)).mono ?_
      rintro e w20 ⟨rfl, hb⟩
      have S20 := S19.below hb
      clear S19 hb
      go_wp2_with fail
      go_ret
      exact ⟨rfl, S20.old⟩
    · obtain ⟨x0, x1, x2, x3, x4, x5, xz⟩ := facts3 (S0.cells 0 rfl)
      go_enter Tryz.func6, Tryz.ntmps6
      go_wp2_with fail
      clear x0 x1 x2 x3 x4 x5 xz
      refine (szTable_big T.t T.p a T.zs.length c 1048576 _ hx (by omega) (by omega) (by omega)).mono ?_
      rintro e w1 ⟨rfl, hb⟩
      go_wp2
      go_ret
      exact ⟨rfl, (S0.below hb).old⟩
  · have t0 : decide ((1048576 : Int) < (ks.length : Int)) = true := by simp; omega
    go_enter Tryz.func6, Tryz.ntmps6
    go_wp2_with fail
    go_ret
    exact ⟨rfl, S0.old⟩

end Go.Proofs.YtdoodkdlfkekmaaGreatDoor

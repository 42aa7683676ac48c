/-
  The exact law of SameTable: the walk.
-/
import Derived.Test.YtlhbddjaioodkaaLawValid
import Derived.Test.YtlhbddjaioodkaaSame
namespace Go.Proofs.Ytlhbddjaioodkaa
open Go.RowKit

/-- Six cells, in whatever world has them. -/
def Six (b1 b2 : Nat) (x0 x1 x2 y0 y1 y2 : Value) (w : World) : Prop :=
  w.cell? ⟨b1, 0, none⟩ = some x0 ∧ w.cell? ⟨b1, 1, none⟩ = some x1 ∧ w.cell? ⟨b1, 2, none⟩ = some x2 ∧ w.cell? ⟨b2, 0, none⟩ = some y0 ∧ w.cell? ⟨b2, 1, none⟩ = some y1 ∧ w.cell? ⟨b2, 2, none⟩ = some y2

theorem St.six {w0 w : World} {l : List It} {b1 b2 : Nat} {x0 x1 x2 y0 y1 y2 : Value} {t1 t2 : TypeId} (S : St w0 w l) (i j : Nat) (hi : l[i]? = some (It.box b1 #[x0, x1, x2] t1)) (hj : l[j]? = some (It.box b2 #[y0, y1, y2] t2)) : Six b1 b2 x0 x1 x2 y0 y1 y2 w := by
  obtain ⟨a0, a1, a2, _⟩ := facts3 (S.cells i hi)
  obtain ⟨c0, c1, c2, _⟩ := facts3 (S.cells j hj)
  exact ⟨a0, a1, a2, c0, c1, c2⟩

set_option maxHeartbeats 4000000 in
theorem walkFnExactSameTable (w : World) (S : Tab) (a : Option Addr) (c : Nat) (hS : TabIn w S a) (T : Tab) (a' : Option Addr) (c' : Nat) (hT : TabIn w T a') :
    Calls Try.prog 14 #[tabV S a c, tabV T a' c'] w fun e w' => e = .returned (.bool true) ∧ Below w.heap.size w w' := by
  have hx := hS.len
  have hy := hT.len
  have S0 := (((St.start w).read hT.at_).read hS.at_).alloc #[.int .i64 S.t, .int .i64 S.p, .slice a S.zs.length c] 43 |>.alloc #[.int .i64 T.t, .int .i64 T.p, .slice a' T.zs.length c'] 43
  rw [World.size_alloc] at S0
  obtain ⟨x0, x1, x2, x3, x4, x5, xz⟩ := facts3 (S0.cells 1 rfl)
  by_cases hs : S.zs.length ≤ 1048576
  · have t1 : decide ((1048576 : Int) - (S.zs.length : Int) < 0) = false := by simp; omega
    by_cases ht : (T.zs.length : Int) ≤ 1048576 - S.zs.length
    · have t2 : decide ((1048576 : Int) - (S.zs.length : Int) - (T.zs.length : Int) < 0) = false := by simp; omega
      go_enter Try.func14, Try.ntmps14
      go_wp2_with fail
      clear x0 x1 x2 x3 x4 x5 xz
      refine (szTable_ok S.t S.p a S.zs.length c 1048576 _ (by omega) (by omega)).mono ?_
      rintro e w1 ⟨rfl, hb⟩
      have S1 := S0.below hb
      clear S0 hb
      obtain ⟨x0, x1, x2, x3, x4, x5, xz⟩ := facts3 (S1.cells 0 rfl)
      go_wp2_with fail
      clear x0 x1 x2 x3 x4 x5 xz
      refine (szTable_ok T.t T.p a' T.zs.length c' _ _ (by omega) (by omega)).mono ?_
      rintro e w2 ⟨rfl, hb⟩
      have S2 := S1.below hb
      clear S1 hb
      obtain ⟨x0, x1, x2, x3, x4, x5, xz⟩ := facts3 (S2.cells 1 rfl)
      obtain ⟨y0, y1, y2, y3, y4, y5, yz⟩ := facts3 (S2.cells 0 rfl)
      go_wp2_with fail
      go_region_held3 (fun w' => w'.cell? ⟨w.heap.size, 0, none⟩ = some (.int .i64 S.t) ∧ w'.cell? ⟨w.heap.size, 1, none⟩ = some (.int .i64 S.p) ∧ w'.cell? ⟨w.heap.size, 2, none⟩ = some (.slice a S.zs.length c) ∧
          w'.cell? ⟨w.heap.size + 1, 0, none⟩ = some (.int .i64 T.t) ∧ w'.cell? ⟨w.heap.size + 1, 1, none⟩ = some (.int .i64 T.p) ∧ w'.cell? ⟨w.heap.size + 1, 2, none⟩ = some (.slice a' T.zs.length c'))
        (first
          | exact ⟨x0, x1, x2, y0, y1, y2⟩
          | exact S3.six 2 1 rfl rfl
          | exact S4.six 3 2 rfl rfl
          | exact S5.six 3 2 rfl rfl)
        (first
          | ((with_reducible refine (toTable_any S a c _ hs (by exact S2.drew.reads 2 rfl)).mono ?_); rintro e w3 ⟨a3, c3, rfl, ho, hb⟩; have S3 := (S2.drew.below hb).own ho; clear ho hb)
          | ((with_reducible refine (toTable_any T a' c' _ (by omega) (by exact S3.reads 4 rfl)).mono ?_); rintro e w4 ⟨a4, c4, rfl, ho, hb⟩; have S4 := (S3.below hb).own ho; clear ho hb)
          | (go_at_call 45; refine (specSameTable_any S T a3 a4 c3 c4 _ hx hy (by exact S4.ints 1 rfl) (by exact S4.ints 0 rfl)).mono ?_; rintro e w5 ⟨rfl, hb⟩; have S5 := S4.below hb; clear hb))
      clear x0 x1 x2 x3 x4 x5 xz y0 y1 y2 y3 y4 y5 yz S2 S3 S4
      obtain ⟨x0, x1, x2, x3, x4, x5, xz⟩ := facts3 (S5.cells 3 rfl)
      go_wp2_with fail
      clear x0 x1 x2 x3 x4 x5 xz
      refine (toTable_any S a c _ hs (by exact S5.reads 4 rfl)).mono ?_
      rintro e w6 ⟨a6, c6, rfl, ho, hb⟩
      have S6 := (S5.below hb).own ho
      clear S5 ho hb
      obtain ⟨x0, x1, x2, x3, x4, x5, xz⟩ := facts3 ((S6.alloc #[.int .i64 S.t, .int .i64 S.p, .slice a6 S.zs.length c6] 25).cells 4 rfl)
      go_wp2_with fail
      clear x0 x1 x2 x3 x4 x5 xz
      refine (toTable_any T a' c' _ (by omega) (by exact (S6.alloc #[.int .i64 S.t, .int .i64 S.p, .slice a6 S.zs.length c6] 25).reads 7 rfl)).mono ?_
      rintro e w7 ⟨a7, c7, rfl, ho, hb⟩
      have S7 := (S6.alloc1 hb).own ho
      clear S6 ho hb
      have S8 := S7.alloc #[.int .i64 T.t, .int .i64 T.p, .slice a7 T.zs.length c7] 25
      obtain ⟨x0, x1, x2, x3, x4, x5, xz⟩ := facts3 (S7.cells 1 rfl)
      go_wp2_with fail
      clear x0 x1 x2 x3 x4 x5 xz
      refine (SameTable_any S T a6 a7 c6 c7 _ hx hy (by exact S8.ints 3 rfl) (by exact S8.ints 1 rfl)).mono ?_
      rintro e w8 ⟨rfl, hb⟩
      have S9 := S7.alloc1 hb
      clear S7 S8 hb
      obtain ⟨x0, x1, x2, x3, x4, x5, xz⟩ := facts3 (S9.cells 7 rfl)
      obtain ⟨y0, y1, y2, y3, y4, y5, yz⟩ := facts3 (S9.cells 2 rfl)
      go_wp2_with fail
      go_region_held3 (fun w' => w'.cell? ⟨w.heap.size, 0, none⟩ = some (.int .i64 S.t) ∧ w'.cell? ⟨w.heap.size, 1, none⟩ = some (.int .i64 S.p) ∧ w'.cell? ⟨w.heap.size, 2, none⟩ = some (.slice a S.zs.length c) ∧
          w'.cell? ⟨w6.heap.size, 0, none⟩ = some (.int .i64 S.t) ∧ w'.cell? ⟨w6.heap.size, 1, none⟩ = some (.int .i64 S.p) ∧ w'.cell? ⟨w6.heap.size, 2, none⟩ = some (.slice a6 S.zs.length c6))
        (first
          | exact ⟨x0, x1, x2, y0, y1, y2⟩
          | exact S10.six 8 3 rfl rfl
          | exact S11.six 8 3 rfl rfl)
        (first
          | (go_at_call 36; refine (toTable_any S a c _ hs (by exact S9.drew.reads 8 rfl)).mono ?_; rintro e w9 ⟨a9, c9, rfl, ho, hb⟩; have S10 := (S9.drew.below hb).own ho; clear ho hb)
          | (go_at_call 37; refine (eqTable_same S a6 a9 c6 c9 _ (by omega) (by exact S10.ints 4 rfl) (by exact S10.ints 0 rfl)).mono ?_; rintro e w10 ⟨rfl, hb⟩; have S11 := S10.below hb; clear hb))
      clear x0 x1 x2 x3 x4 x5 xz y0 y1 y2 y3 y4 y5 yz S9 S10
      obtain ⟨x0, x1, x2, x3, x4, x5, xz⟩ := facts3 (S11.cells 7 rfl)
      obtain ⟨y0, y1, y2, y3, y4, y5, yz⟩ := facts3 (S11.cells 1 rfl)
      go_wp2_with fail
      go_region_held3 (fun w' => w'.cell? ⟨w.heap.size + 1, 0, none⟩ = some (.int .i64 T.t) ∧ w'.cell? ⟨w.heap.size + 1, 1, none⟩ = some (.int .i64 T.p) ∧ w'.cell? ⟨w.heap.size + 1, 2, none⟩ = some (.slice a' T.zs.length c') ∧
          w'.cell? ⟨w7.heap.size, 0, none⟩ = some (.int .i64 T.t) ∧ w'.cell? ⟨w7.heap.size, 1, none⟩ = some (.int .i64 T.p) ∧ w'.cell? ⟨w7.heap.size, 2, none⟩ = some (.slice a7 T.zs.length c7))
        (first
          | exact ⟨x0, x1, x2, y0, y1, y2⟩
          | exact S12.six 8 2 rfl rfl
          | exact S13.six 8 2 rfl rfl)
        (first
          | (go_at_call 36; refine (toTable_any T a' c' _ (by omega) (by exact S11.drew.reads 10 rfl)).mono ?_; rintro e w11 ⟨a11, c11, rfl, ho, hb⟩; have S12 := (S11.drew.below hb).own ho; clear ho hb)
          | (go_at_call 37; refine (eqTable_same T a7 a11 c7 c11 _ (by omega) (by exact S12.ints 3 rfl) (by exact S12.ints 0 rfl)).mono ?_; rintro e w12 ⟨rfl, hb⟩; have S13 := S12.below hb; clear hb))
      go_wp2
      go_ret
      exact ⟨rfl, S13.old⟩
    · go_enter Try.func14, Try.ntmps14
      go_wp2_with fail
      clear x0 x1 x2 x3 x4 x5 xz
      refine (szTable_ok S.t S.p a S.zs.length c 1048576 _ (by omega) (by omega)).mono ?_
      rintro e w1 ⟨rfl, hb⟩
      have S1 := S0.below hb
      clear S0 hb
      obtain ⟨x0, x1, x2, x3, x4, x5, xz⟩ := facts3 (S1.cells 0 rfl)
      go_wp2_with fail
      clear x0 x1 x2 x3 x4 x5 xz
      refine (szTable_big T.t T.p a' T.zs.length c' _ _ hy (by omega) (by omega) (by omega)).mono ?_
      rintro e w2 ⟨rfl, hb⟩
      go_wp2
      go_ret
      exact ⟨rfl, (S1.below hb).old⟩
  · go_enter Try.func14, Try.ntmps14
    go_wp2_with fail
    clear x0 x1 x2 x3 x4 x5 xz
    refine (szTable_big S.t S.p a S.zs.length c 1048576 _ hx (by omega) (by omega) (by omega)).mono ?_
    rintro e w1 ⟨rfl, hb⟩
    go_wp2
    go_ret
    exact ⟨rfl, (S0.below hb).old⟩

end Go.Proofs.Ytlhbddjaioodkaa

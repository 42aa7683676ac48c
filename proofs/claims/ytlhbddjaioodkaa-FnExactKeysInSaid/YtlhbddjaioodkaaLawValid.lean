/-
  The exact law of TableValid.
-/
import Derived.Test.YtlhbddjaioodkaaConv
import Derived.Test.YtlhbddjaioodkaaFrame
import Derived.Deep.RegionHeld3
namespace Go.Proofs.Ytlhbddjaioodkaa
open Go.RowKit

theorem keep6 {W W' : World} {b1 b2 : Nat} {x0 x1 x2 y0 y1 y2 : Value} (hb : Below W.heap.size W W') (z1 : b1 < W.heap.size) (z2 : b2 < W.heap.size)
    (h : W.cell? ⟨b1, 0, none⟩ = some x0 ∧ W.cell? ⟨b1, 1, none⟩ = some x1 ∧ W.cell? ⟨b1, 2, none⟩ = some x2 ∧ W.cell? ⟨b2, 0, none⟩ = some y0 ∧ W.cell? ⟨b2, 1, none⟩ = some y1 ∧ W.cell? ⟨b2, 2, none⟩ = some y2) :
    W'.cell? ⟨b1, 0, none⟩ = some x0 ∧ W'.cell? ⟨b1, 1, none⟩ = some x1 ∧ W'.cell? ⟨b1, 2, none⟩ = some x2 ∧ W'.cell? ⟨b2, 0, none⟩ = some y0 ∧ W'.cell? ⟨b2, 1, none⟩ = some y1 ∧ W'.cell? ⟨b2, 2, none⟩ = some y2 :=
  ⟨(hb.cell (p := ⟨b1, 0, none⟩) z1).trans h.1, (hb.cell (p := ⟨b1, 1, none⟩) z1).trans h.2.1, (hb.cell (p := ⟨b1, 2, none⟩) z1).trans h.2.2.1,
   (hb.cell (p := ⟨b2, 0, none⟩) z2).trans h.2.2.2.1, (hb.cell (p := ⟨b2, 1, none⟩) z2).trans h.2.2.2.2.1, (hb.cell (p := ⟨b2, 2, none⟩) z2).trans h.2.2.2.2.2⟩

/-- The same table twice. -/
theorem eqTable_same (T : Tab) (a1 a2 : Option Addr) (c1 c2 : Nat) (w : World) (hx : T.zs.length ≤ 1073741824) (h1 : IntsAt w a1 T.zs) (h2 : IntsAt w a2 T.zs) :
    Calls Try.prog 37 #[tabV T a1 c1, tabV T a2 c2] w
      fun e w' => e = .returned (.bool true) ∧ Below w.heap.size w w' := by
  refine (eqTable_any a1 a2 c1 c2 T.t T.p T.t T.p T.zs T.zs w hx hx h1 h2).mono ?_
  rintro e w' ⟨rfl, hb⟩
  exact ⟨by simp, hb⟩

set_option maxHeartbeats 2000000 in
theorem exactTableValid (T : Tab) (a : Option Addr) (c : Nat) (w : World) (hx : T.zs.length ≤ 9223372036854775807) (h1 : IntsAt w a T.zs) :
    Calls Try.prog 8 #[tabV T a c] w fun e w' => e = .returned (.bool true) ∧ Below w.heap.size w w' := by
  have S0 := ((St.start w).read h1).alloc #[.int .i64 T.t, .int .i64 T.p, .slice a T.zs.length c] 43
  by_cases hs : T.zs.length ≤ 1048576
  · have t1 : decide ((1048576 : Int) - (T.zs.length : Int) < 0) = false := by simp; omega
    obtain ⟨x0, x1, x2, x3, x4, x5, xz⟩ := facts3 (S0.cells 0 rfl)
    go_enter Try.func8, Try.ntmps8
    go_wp2_with fail
    clear x0 x1 x2 x3 x4 x5 xz
    refine (szTable_ok T.t T.p a T.zs.length c 1048576 _ (by omega) (by omega)).mono ?_
    rintro e w1 ⟨rfl, hb⟩
    have S1 := S0.below hb
    clear S0 hb
    obtain ⟨x0, x1, x2, x3, x4, x5, xz⟩ := facts3 (S1.cells 0 rfl)
    go_wp2_with fail
    clear x0 x1 x2 x3 x4 x5 xz
    refine (toTable_any T a c _ hs (by exact S1.reads 1 rfl)).mono ?_
    rintro e w2 ⟨a2, c2, rfl, ho, hb⟩
    have S2 := (S1.below hb).own ho
    clear S1 hb ho
    obtain ⟨x0, x1, x2, x3, x4, x5, xz⟩ := facts3 (S2.cells 1 rfl)
    go_wp2_with fail
    clear x0 x1 x2 x3 x4 x5 xz
    refine (specTableValid_any T a2 c2 _ hx (by exact S2.ints 0 rfl)).mono ?_
    rintro e w3 ⟨rfl, hb⟩
    have S3 := S2.below hb
    clear S2 hb
    obtain ⟨x0, x1, x2, x3, x4, x5, xz⟩ := facts3 (S3.cells 1 rfl)
    go_wp2_with fail
    clear x0 x1 x2 x3 x4 x5 xz
    refine (toTable_any T a c _ hs (by exact S3.reads 2 rfl)).mono ?_
    rintro e w4 ⟨a4, c4, rfl, ho, hb⟩
    have S4 := (S3.below hb).own ho
    clear S3 hb ho
    obtain ⟨x0, x1, x2, x3, x4, x5, xz⟩ := facts3 (S4.cells 2 rfl)
    go_wp2_with fail
    clear x0 x1 x2 x3 x4 x5 xz
    refine (TableValid_any T a4 c4 _ hx (by exact (S4.alloc _ 25).ints 1 rfl)).mono ?_
    rintro e w5 ⟨rfl, hb⟩
    have S5 := S4.alloc1 hb
    clear S4 hb
    obtain ⟨x0, x1, x2, x3, x4, x5, xz⟩ := facts3 (S5.cells 3 rfl)
    obtain ⟨y0, y1, y2, y3, y4, y5, yz⟩ := facts3 (S5.cells 0 rfl)
    go_wp2_with fail
    go_region_held3 (fun w' => w'.cell? ⟨w.heap.size, 0, none⟩ = some (.int .i64 T.t) ∧ w'.cell? ⟨w.heap.size, 1, none⟩ = some (.int .i64 T.p) ∧ w'.cell? ⟨w.heap.size, 2, none⟩ = some (.slice a T.zs.length c) ∧
        w'.cell? ⟨w4.heap.size, 0, none⟩ = some (.int .i64 T.t) ∧ w'.cell? ⟨w4.heap.size, 1, none⟩ = some (.int .i64 T.p) ∧ w'.cell? ⟨w4.heap.size, 2, none⟩ = some (.slice a4 T.zs.length c4))
      (first
        | exact ⟨x0, x1, x2, y0, y1, y2⟩
        | exact keep6 hb xz yz ⟨x0, x1, x2, y0, y1, y2⟩
        | exact keep6 hb7 (Nat.lt_of_lt_of_le xz hb.size) (Nat.lt_of_lt_of_le yz hb.size) (keep6 hb xz yz ⟨x0, x1, x2, y0, y1, y2⟩))
      (first
        | (go_at_call 36; refine (toTable_any T a c _ hs (by exact S5.drew.reads 4 rfl)).mono ?_; rintro e w6 ⟨a6, c6, rfl, ho, hb⟩)
        | (go_at_call 37; refine (eqTable_same T a4 a6 c4 c6 _ (by omega) (by exact (S5.drew.below hb).ints 1 rfl) (by exact ho.ints)).mono ?_; rintro e w7 ⟨rfl, hb7⟩))
    go_wp2
    go_ret
    exact ⟨rfl, ((S5.drew.below hb).below hb7).old⟩
  · obtain ⟨x0, x1, x2, x3, x4, x5, xz⟩ := facts3 (S0.cells 0 rfl)
    go_enter Try.func8, Try.ntmps8
    go_wp2_with fail
    clear x0 x1 x2 x3 x4 x5 xz
    refine (szTable_big T.t T.p a T.zs.length c 1048576 _ hx (by omega) (by omega) (by omega)).mono ?_
    rintro e w1 ⟨rfl, hb⟩
    go_wp2
    go_ret
    exact ⟨rfl, (S0.below hb).old⟩

theorem walkFnExactTableValid (w : World) (T : Tab) (a : Option Addr) (c : Nat) (h : TabIn w T a) :
    Calls Try.prog 8 #[tabV T a c] w fun e w' => e = .returned (.bool true) ∧ Below w.heap.size w w' := exactTableValid T a c w h.len h.at_

end Go.Proofs.Ytlhbddjaioodkaa

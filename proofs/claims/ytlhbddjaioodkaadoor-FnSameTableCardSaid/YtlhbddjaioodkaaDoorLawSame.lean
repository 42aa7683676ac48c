/-
  The law FnSameTable: the walk.
-/
import Derived.Test.YtlhbddjaioodkaaDoorDrawS
import Derived.Test.YtlhbddjaioodkaaDoorFmtInj
import Derived.Test.YtlhbddjaioodkaaDoorFmtT
import Derived.Test.YtlhbddjaioodkaaDoorCame
import Derived.Test.YtlhbddjaioodkaaDoorSame
import Derived.Test.YtlhbddjaioodkaaDoorSix
namespace Go.Proofs.YtlhbddjaioodkaaDoor
open Go.RowKit

/-- The text of a table, its string under one name. -/
theorem Format_str (T : Tab) (a : Option Addr) (c : Nat) (hx : T.zs.length ≤ 9223372036854775807) : ∃ b : ByteArray, Hid (b.data.toList = fmtOf T) ∧ Hid (∀ W, IntsAt W a T.zs → Calls Tryd.prog 7 #[tabV T a c] W fun e w' => e = .returned (.string b) ∧ Below W.heap.size W w') :=
  ⟨⟨(fmtOf T).toArray⟩, Lib.hid rfl, Lib.hid fun W h => FormatTable_any T a c W hx h⟩

theorem sameB_comm (S T : Tab) : sameB S T = sameB T S := by
  simp only [sameB, eq_comm]

theorem bytes_beq (x y : ByteArray) : (x.toList == y.toList) = decide (x = y) := by
  rw [ByteArray.toList_eq, ByteArray.toList_eq, Bool.eq_iff_iff]
  simp only [beq_iff_eq, decide_eq_true_eq]
  constructor
  · intro h
    cases x; cases y
    simp at h
    rw [h]
  · rintro rfl; rfl

theorem sameB_eq {A B : Tab} (h : sameB A B = true) : A = B := by
  simp [sameB] at h
  cases A; cases B
  simp only [Tab.mk.injEq] at *
  exact h

set_option maxHeartbeats 8000000 in
set_option maxRecDepth 100000 in
theorem walkFnSameTable (w : World) (a : Option Addr) (len cap : Nat) (zs : List Int) (h : IsRow .u8 w a len cap zs) :
    Calls Tryd.prog 4 #[.slice a len cap] w fun e w' => e = .returned (.bool true) ∧ Below w.heap.size w w' := by
  obtain ⟨ys, rfl, hC, S0⟩ := came_of h
  clear h
  by_cases hs : ys.length ≤ 1048576
  · have t1 : decide (1048576 < (ys.length : Int)) = false := by simp; omega
    go_enter Tryd.func4, Tryd.ntmps4
    go_wp2_with fail
    refine (DrawSameTable_any (by exact S0) hC).mono ?_
    rintro e w1 ⟨A, B, a1, b1, c1, d1, lo, hi, lo2, hi2, rfl, ⟨n1, n2⟩, ⟨m1, m2⟩, S1⟩
    have S2 := (S1.alloc #[.int .i64 A.t, .int .i64 A.p, .slice a1 A.zs.length c1] 25).alloc #[.int .i64 B.t, .int .i64 B.p, .slice b1 B.zs.length d1] 25
    rw [World.size_alloc] at S2
    go_wp2_with fail
    refine (SameTable_any A B a1 b1 c1 d1 _ (by omega) (by omega) (by exact S2.ints 2 rfl) (by exact S2.ints 3 rfl)).mono ?_
    rintro e w2 ⟨rfl, hb⟩
    have S3 := S1.alloc2 hb
    clear S1 S2 hb
    have T3 := S3.six 1 0 rfl rfl
    obtain ⟨x0, x1, x2, x3, x4, x5, xz⟩ := facts3 (S3.cells 1 rfl)
    obtain ⟨y0, y1, y2, y3, y4, y5, yz⟩ := facts3 (S3.cells 0 rfl)
    have HC := Lib.hid (sameB_comm A B)
    have HA : Hid (sameB A A = true) := Lib.hid (by simp [sameB])
    obtain ⟨tx, TX, FA⟩ := Format_str A a1 c1 (by omega)
    obtain ⟨ty, TY, FB⟩ := Format_str B b1 d1 (by omega)
    have HS := Lib.hid fun (ha : validB A = true) (hb : validB B = true) => same_text ha hb TX.out TY.out
    go_wp2_with fail
    go_region_held3 (fun w' => w'.cell? ⟨w1.heap.size, 0, none⟩ = some (.int .i64 A.t) ∧ w'.cell? ⟨w1.heap.size, 1, none⟩ = some (.int .i64 A.p) ∧ w'.cell? ⟨w1.heap.size, 2, none⟩ = some (.slice a1 A.zs.length c1) ∧
        w'.cell? ⟨w1.heap.size + 1, 0, none⟩ = some (.int .i64 B.t) ∧ w'.cell? ⟨w1.heap.size + 1, 1, none⟩ = some (.int .i64 B.p) ∧ w'.cell? ⟨w1.heap.size + 1, 2, none⟩ = some (.slice b1 B.zs.length d1))
      (first
        | exact ⟨x0, x1, x2, y0, y1, y2⟩
        | exact S4.six 1 0 rfl rfl
        | exact S5.six 1 0 rfl rfl
        | exact S6.six 1 0 rfl rfl
        | exact S7.six 1 0 rfl rfl
        | exact S8.six 1 0 rfl rfl)
      (first
        | (go_at_call 15; (with_reducible refine (specSameTable_any A B a1 b1 c1 d1 _ (by omega) (by omega) (by exact S3.drew.ints 2 rfl) (by exact S3.drew.ints 3 rfl)).mono ?_); rintro e w4 ⟨rfl, hb⟩; have S4 := S3.drew.below hb; clear hb)
        | ((with_reducible refine (SameTable_any B A b1 a1 d1 c1 _ (by omega) (by omega) (by exact S4.ints 3 rfl) (by exact S4.ints 2 rfl)).mono ?_); rintro e w5 ⟨rfl, hb⟩; have S5 := S4.below hb; clear hb; rw [← HC.out])
        | ((with_reducible refine (SameTable_any A A a1 a1 c1 c1 _ (by omega) (by omega) (by exact S5.ints 2 rfl) (by exact S5.ints 2 rfl)).mono ?_); rintro e w6 ⟨rfl, hb⟩; have S6 := S5.below hb; clear hb; rw [HA.out])
        | (go_at_call 10; (with_reducible refine (TableValid_any A a1 c1 _ (by omega) (by exact S6.ints 2 rfl)).mono ?_); rintro e w7 ⟨rfl, hb⟩; have S7 := S6.below hb; clear hb)
        | (go_at_call 16; (with_reducible refine (specTableValid_any A a1 c1 _ (by omega) (by exact S7.ints 2 rfl)).mono ?_); rintro e w8 ⟨rfl, hb⟩; have S8 := S7.below hb; clear hb))
    clear x0 x1 x2 x3 x4 x5 xz y0 y1 y2 y3 y4 y5 yz S3 S4 S5 S6 S7 T3
    obtain ⟨x0, x1, x2, x3, x4, x5, xz⟩ := facts3 (S8.cells 1 rfl)
    go_wp2_with fail
    refine (TableValid_any A a1 c1 _ (by omega) (by exact S8.ints 2 rfl)).mono ?_
    rintro e w9 ⟨rfl, hb⟩
    have S9 := S8.below hb
    clear S8 hb x0 x1 x2 x3 x4 x5 xz
    obtain ⟨x0, x1, x2, x3, x4, x5, xz⟩ := facts3 (S9.cells 1 rfl)
    obtain ⟨y0, y1, y2, y3, y4, y5, yz⟩ := facts3 (S9.cells 0 rfl)
    cases hA : validB A
    · have VA := Lib.hid hA
      clear hA
      have HE : Hid (sameB A B = true → validB A = validB B) := Lib.hid fun h => by rw [sameB_eq h]
      cases hsm : sameB A B
      · go_wp2_with fail
        go_quiet (fail)
        go_wp2
        go_ret
        exact ⟨rfl, below_drewN S9.old _⟩
      · have HE2 := Lib.hid (HE.out hsm)
        clear HE hsm
        go_wp2_with fail
        go_region_held3 (fun w' => w'.cell? ⟨w1.heap.size, 0, none⟩ = some (.int .i64 A.t) ∧ w'.cell? ⟨w1.heap.size, 1, none⟩ = some (.int .i64 A.p) ∧ w'.cell? ⟨w1.heap.size, 2, none⟩ = some (.slice a1 A.zs.length c1) ∧
            w'.cell? ⟨w1.heap.size + 1, 0, none⟩ = some (.int .i64 B.t) ∧ w'.cell? ⟨w1.heap.size + 1, 1, none⟩ = some (.int .i64 B.p) ∧ w'.cell? ⟨w1.heap.size + 1, 2, none⟩ = some (.slice b1 B.zs.length d1))
          (first
            | exact ⟨x0, x1, x2, y0, y1, y2⟩
            | exact S11.six 1 0 rfl rfl
            | exact S12.six 1 0 rfl rfl)
          (first
            | ((with_reducible refine (TableValid_any A a1 c1 _ (by omega) (by exact S9.drew.ints 2 rfl)).mono ?_); rintro e w11 ⟨rfl, hb⟩; have S11 := S9.drew.below hb; clear hb)
            | ((with_reducible refine (TableValid_any B b1 d1 _ (by omega) (by exact S11.ints 3 rfl)).mono ?_); rintro e w12 ⟨rfl, hb⟩; have S12 := S11.below hb; clear hb; rw [← HE2.out]))
        go_wp2
        go_ret
        exact ⟨by simp, S12.old⟩
    · have VA := Lib.hid hA
      clear hA
      go_wp2_with fail
      clear x0 x1 x2 x3 x4 x5 xz y0 y1 y2 y3 y4 y5 yz
      refine (TableValid_any B b1 d1 _ (by omega) (by exact S9.ints 3 rfl)).mono ?_
      rintro e w10 ⟨rfl, hb⟩
      have S10 := S9.below hb
      clear S9 hb
      obtain ⟨x0, x1, x2, x3, x4, x5, xz⟩ := facts3 (S10.cells 1 rfl)
      obtain ⟨y0, y1, y2, y3, y4, y5, yz⟩ := facts3 (S10.cells 0 rfl)
      cases hB : validB B
      · have VB := Lib.hid hB
        clear hB
        have HE : Hid (sameB A B = true → validB A = validB B) := Lib.hid fun h => by rw [sameB_eq h]
        cases hsm : sameB A B
        · go_wp2_with fail
          go_quiet (fail)
          go_wp2
          go_ret
          exact ⟨rfl, below_drewN S10.old _⟩
        · have HE2 := Lib.hid (HE.out hsm)
          clear HE hsm
          go_wp2_with fail
          go_region_held3 (fun w' => w'.cell? ⟨w1.heap.size, 0, none⟩ = some (.int .i64 A.t) ∧ w'.cell? ⟨w1.heap.size, 1, none⟩ = some (.int .i64 A.p) ∧ w'.cell? ⟨w1.heap.size, 2, none⟩ = some (.slice a1 A.zs.length c1) ∧
              w'.cell? ⟨w1.heap.size + 1, 0, none⟩ = some (.int .i64 B.t) ∧ w'.cell? ⟨w1.heap.size + 1, 1, none⟩ = some (.int .i64 B.p) ∧ w'.cell? ⟨w1.heap.size + 1, 2, none⟩ = some (.slice b1 B.zs.length d1))
            (first
              | exact ⟨x0, x1, x2, y0, y1, y2⟩
              | exact S11.six 1 0 rfl rfl
              | exact S12.six 1 0 rfl rfl)
            (first
              | ((with_reducible refine (TableValid_any A a1 c1 _ (by omega) (by exact S10.drew.ints 2 rfl)).mono ?_); rintro e w11 ⟨rfl, hb⟩; have S11 := S10.drew.below hb; clear hb)
              | ((with_reducible refine (TableValid_any B b1 d1 _ (by omega) (by exact S11.ints 3 rfl)).mono ?_); rintro e w12 ⟨rfl, hb⟩; have S12 := S11.below hb; clear hb; rw [← HE2.out]))
          go_wp2
          go_ret
          exact ⟨by simp, S12.old⟩
      · have HS2 := Lib.hid (HS.out VA.out hB)
        clear hB HS
        go_wp2_with fail
        go_region_held3 (fun w' => w'.cell? ⟨w1.heap.size, 0, none⟩ = some (.int .i64 A.t) ∧ w'.cell? ⟨w1.heap.size, 1, none⟩ = some (.int .i64 A.p) ∧ w'.cell? ⟨w1.heap.size, 2, none⟩ = some (.slice a1 A.zs.length c1) ∧
            w'.cell? ⟨w1.heap.size + 1, 0, none⟩ = some (.int .i64 B.t) ∧ w'.cell? ⟨w1.heap.size + 1, 1, none⟩ = some (.int .i64 B.p) ∧ w'.cell? ⟨w1.heap.size + 1, 2, none⟩ = some (.slice b1 B.zs.length d1))
          (first
            | exact ⟨x0, x1, x2, y0, y1, y2⟩
            | exact S11.six 1 0 rfl rfl
            | exact S12.six 1 0 rfl rfl)
          (first
            | ((with_reducible refine (FA.out _ (by exact S10.drew.ints 2 rfl)).mono ?_); rintro e w11 ⟨rfl, hb⟩; have S11 := S10.drew.below hb; clear hb)
            | ((with_reducible refine (FB.out _ (by exact S11.ints 3 rfl)).mono ?_); rintro e w12 ⟨rfl, hb⟩; have S12 := S11.below hb; clear hb))
        go_wp2
        go_ret
        exact ⟨ret_bool (by rw [HS2.out, bytes_beq]; simp), S12.old⟩
  · have t1 : decide (1048576 < (ys.length : Int)) = true := by simp; omega
    go_enter Tryd.func4, Tryd.ntmps4
    go_wp2_with fail
    go_ret
    exact ⟨rfl, S0.old⟩

end Go.Proofs.YtlhbddjaioodkaaDoor

/-
  The law FnFairRuns: the walk.
-/
import Derived.Deep.DeepCutAuto
import Derived.Test.YtflfmoiopaohiaaGreatDoorDraws2All
import Derived.Test.YtflfmoiopaohiaaGreatDoorFairAll
import Derived.Test.YtflfmoiopaohiaaGreatDoorModel6All
import Derived.Test.YtflfmoiopaohiaaGreatDoorAway
import Derived.Test.YtflfmoiopaohiaaGreatDoorDrawn
import Derived.Test.YtflfmoiopaohiaaGreatDoorMath
namespace Go.Proofs.YtflfmoiopaohiaaGreatDoor
open Go.RowKit

set_option maxHeartbeats 8000000 in
theorem walkFnFairRuns (w : World) (a : Option Addr) (len cap : Nat) (zs : List Int) (h : IsRow .u8 w a len cap zs) (hL : Laid w) :
    Calls Tryz.prog 3 #[.slice a len cap] w fun e w' => e = .returned (.bool true) ∧ Below w.heap.size w w' := by
  obtain ⟨ys, rfl, hC, S0⟩ := came_of h
  clear h
  by_cases hs : ys.length ≤ 1048576
  · have t1 : decide (1048576 < (ys.length : Int)) = false := by simp; omega
    go_enter Tryz.func3, Tryz.ntmps3
    go_wp2_with fail
    refine (DrawIsFair_any (by exact S0) hC).mono ?_
    rintro e w1 ⟨T, a1, c1, lo, hi, rfl, hT, hlo, S1⟩
    obtain ⟨n1, n2⟩ := hT.len
    have S2 := S1.alloc #[.int .i64 T.t, .int .i64 T.p, .slice a1 T.zs.length c1] 25
    have HF := Lib.hid fun (W : World) (h : IntsAt W a1 T.zs) (hl : Laid W) => IsFair_any T a1 c1 W (by omega) h hl
    have HS := Lib.hid fun (W : World) (h : IntsAt W a1 T.zs) => specIsFair_any T a1 c1 W (by omega) h
    have HA := Lib.hid fun (s : Int) (W : World) (h : IntsAt W a1 T.zs) => AwayOf_any T a1 c1 s W (by omega) h
    have HR := Lib.hid fun (hf : fairB T = true) => @fair_runs T hf
    have HB := Lib.hid fun (hf : fairB T = true) (s : Nat) => awayOf_bounds' T s (valid_facts (plain_parts (fair_parts hf).1).2.1).1.2
    have HL := Lib.hid fun (W : World) (h : Below w.heap.size w W) => hL.below h hL.pos
    clear S0 hC t1 hs hT
    generalize fairB T = fb at HF HS HR HB
    have S2d := S2.drew
    have L2 := HL.out _ S2d.old
    obtain ⟨x0, x1, x2, x3, x4, x5, xz⟩ := facts3 (S2.cells 0 rfl)
    go_wp2_with fail
    go_region_held3 (fun w' => w'.cell? ⟨w1.heap.size, 0, none⟩ = some (.int .i64 T.t) ∧ w'.cell? ⟨w1.heap.size, 1, none⟩ = some (.int .i64 T.p) ∧ w'.cell? ⟨w1.heap.size, 2, none⟩ = some (.slice a1 T.zs.length c1))
      (first
        | exact ⟨x0, x1, x2⟩
        | exact S3.three 0 rfl
        | exact S4.three 0 rfl)
      (first
        | (go_at_call 7; refine (HF.out _ (by exact S2d.ints 1 rfl) L2).mono ?_; rintro e w2 ⟨rfl, hb⟩; have S3 := S2d.below hb; clear hb)
        | (go_at_call 8; refine (HS.out _ (by exact S3.ints 1 rfl)).mono ?_; rintro e w3 ⟨rfl, hb⟩; have S4 := S3.below hb; clear hb))
    clear S1 S2 S2d S3 x0 x1 x2 x3 x4 x5 xz L2
    obtain ⟨x0, x1, x2, x3, x4, x5, xz⟩ := facts3 (S4.cells 0 rfl)
    have L4 := HL.out _ S4.old
    have bb : (fb != fb) = false := by simp
    go_wp2_with fail
    clear x0 x1 x2 x3 x4 x5 xz
    refine (HF.out _ (by exact S4.ints 1 rfl) L4).mono ?_
    rintro e w5 ⟨rfl, hb⟩
    have S5 := S4.below hb
    clear S4 hb L4
    obtain ⟨x0, x1, x2, x3, x4, x5, xz⟩ := facts3 (S5.cells 0 rfl)
    cases fb
    · go_wp2_with fail
      go_ret
      exact ⟨rfl, S5.old⟩
    · obtain ⟨b, o, y0, rfl, _, Y0⟩ := (S5.ints 1 rfl).at (show 0 < T.zs.length by omega)
      have ln : ((T.zs.length : Int) == 0) = false := beq_eq_false_iff_ne.2 (by omega)
      have ln2 : (T.zs.length == 0) = false := beq_eq_false_iff_ne.2 (by omega)
      have ln3 : ¬ T.zs = [] := by intro e; rw [e] at n1; simp at n1
      go_wp2_with fail
      clear x0 x1 x2 x3 x4 x5 xz Y0
      have S6 := S5
      clear S5
      go_loopw [5, 6, 7, 25] (fun _ _ _ i wr => ∃ k : Nat, k ≤ T.zs.length ∧ i = .int .i64 k ∧ St w wr [It.box w1.heap.size #[.int .i64 T.t, .int .i64 T.p, .slice (some ⟨b, o, none⟩) T.zs.length c1] 25, It.own lo hi (some ⟨b, o, none⟩) T.zs]) (fun _ _ _ i _ => T.zs.length - (intOf i).toNat)
      case atStart => exact ⟨0, Nat.zero_le _, rfl, S6⟩
      case round =>
        obtain ⟨i, hi', rfl, Sr⟩ := hrel
        clear S6
        obtain ⟨x0, x1, x2, x3, x4, x5, xz⟩ := facts3 (Sr.cells 0 rfl)
        by_cases hlt : i < T.zs.length
        · have dk : decide ((i : Int) < (T.zs.length : Int)) = true := decide_eq_true (by omega)
          have s0 : IntKind.i64.wrap ((i : Int) + 1) = (i : Int) + 1 := IntWalk.i64_in _ (by omega)
          obtain ⟨j, hj⟩ : ∃ j, (i + 1) % T.zs.length = j := ⟨_, rfl⟩
          have hjl : j < T.zs.length := by rw [← hj]; exact Nat.mod_lt _ (by omega)
          have s1 : ((i : Int) + 1).tmod (T.zs.length : Int) = (j : Int) := by rw [Int.tmod_eq_emod_of_nonneg (by omega), ← hj]; simp
          have HC := Lib.hid (HR.out trivial hlt hj.symm)
          obtain ⟨a0, a1⟩ := HB.out trivial i
          obtain ⟨d0, d1⟩ := HB.out trivial j
          have HAi := Lib.hid (HA.out (i : Int))
          have HAj := Lib.hid (HA.out (j : Int))
          obtain ⟨b', o', x, e, q, X⟩ := (Sr.ints 1 rfl).at hlt
          cases e
          obtain ⟨b', o', y, e, q2, Y⟩ := (Sr.ints 1 rfl).at hjl
          cases e
          rw [X.out, Y.out] at HC
          have HXY : Hid (x < y → nth T.zs i < nth T.zs j) := Lib.hid fun h => by rw [X.out, Y.out]; exact h
          clear X Y hj
          generalize awayOf T (i : Int) = a at HAi HC a0 a1
          generalize awayOf T (j : Int) = d at HAj HC d0 d1
          have j0 : (0 : Int) ≤ (j : Int) := by omega
          have j1 : (j : Int) < (T.zs.length : Int) := by omega
          have i0 : (0 : Int) ≤ (i : Int) := by omega
          have i1 : (i : Int) < (T.zs.length : Int) := by omega
          have SrD := Sr.drew
          go_wp2_with fail
          go_region_held3 (fun w' => w'.cell? ⟨w1.heap.size, 0, none⟩ = some (.int .i64 T.t) ∧ w'.cell? ⟨w1.heap.size, 1, none⟩ = some (.int .i64 T.p) ∧ w'.cell? ⟨w1.heap.size, 2, none⟩ = some (.slice (some ⟨b, o, none⟩) T.zs.length c1))
            (first
              | exact ⟨x0, x1, x2⟩
              | exact S7.three 0 rfl
              | exact S8.three 0 rfl)
            (first
              | (go_at_call 9; with_reducible refine (HAi.out _ (by exact SrD.ints 1 rfl)).mono ?_; rintro e w7 ⟨rfl, hb⟩; have S7 := SrD.below hb; clear hb)
              | (go_at_call 9; with_reducible refine (HAj.out _ (by exact S7.ints 1 rfl)).mono ?_; rintro e w8 ⟨rfl, hb⟩; have S8 := S7.below hb; clear hb))
          clear x0 x1 x2 x3 x4 x5 xz q q2 Sr SrD S7
          obtain ⟨x0, x1, x2, x3, x4, x5, xz⟩ := facts3 (S8.cells 0 rfl)
          by_cases hd : d < 0
          · have dd : decide (d < 0) = true := decide_eq_true hd
            go_wp2_with fail
            go_roundw
            case rel => exact ⟨i + 1, by omega, by go_num, S8⟩
            case measure => simp [intOf]; omega
          · have dd : decide (d < 0) = false := decide_eq_false hd
            rcases HC.out (by omega) with ⟨rfl, rfl⟩ | ⟨h1, h2⟩ | ⟨h1, rfl, h2⟩
            · go_wp2_with fail
              go_quiet (fail)
              go_wp2
              go_roundw
              case rel => exact ⟨i + 1, by omega, by go_num, S8.drewN _⟩
              case measure => simp [intOf]; omega
            · have e1 : decide (a < 0) = false := decide_eq_false (by omega)
              have e2 : IntKind.i64.wrap (a + 1) = a + 1 := IntWalk.i64_in _ (by omega)
              have e3 : decide (a + 1 < d) = false := decide_eq_false (by omega)
              have e4 : decide (0 ≤ a) = true := decide_eq_true (by omega)
              have e5 : (d == a + 1) = false := beq_eq_false_iff_ne.2 (by omega)
              go_wp2_with fail
              go_quiet (fail)
              go_wp2
              go_roundw
              case rel => exact ⟨i + 1, by omega, by go_num, S8.drewN _⟩
              case measure => simp [intOf]; omega
            · have e1 : decide (a < 0) = false := decide_eq_false (by omega)
              have e2 : IntKind.i64.wrap (a + 1) = a + 1 := IntWalk.i64_in _ (by omega)
              have e4 : decide (0 ≤ a) = true := decide_eq_true (by omega)
              obtain ⟨b', o', x', e, q, X⟩ := (S8.ints 1 rfl).at hlt
              cases e
              obtain ⟨b', o', y', e, q2, Y⟩ := (S8.ints 1 rfl).at hjl
              cases e
              have hxy : x' < y' := by rw [← X.out, ← Y.out]; exact HXY.out h2
              have e5 : decide (y' ≤ x') = false := decide_eq_false (by omega)
              clear X Y
              go_wp2_with fail
              go_quiet (fail)
              go_wp2
              go_roundw
              case rel => exact ⟨i + 1, by omega, by go_num, S8.drewN _⟩
              case measure => simp [intOf]; omega
        · obtain rfl : i = T.zs.length := by omega
          go_wp2_with fail
          go_ret
          exact ⟨rfl, Sr.old⟩
  · have t1 : decide (1048576 < (ys.length : Int)) = true := by simp; omega
    go_enter Tryz.func3, Tryz.ntmps3
    go_wp2_with fail
    go_ret
    exact ⟨rfl, S0.old⟩

end Go.Proofs.YtflfmoiopaohiaaGreatDoor

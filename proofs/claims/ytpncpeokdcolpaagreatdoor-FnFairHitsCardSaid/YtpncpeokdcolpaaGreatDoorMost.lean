/-
  MostAway and TotalAway, of the model and of the program.
-/
import Derived.Test.YtpncpeokdcolpaaGreatDoorMath
import Derived.Test.YtpncpeokdcolpaaGreatDoorAway
namespace Go.Proofs.YtpncpeokdcolpaaGreatDoor
open Go.RowKit

set_option maxHeartbeats 1000000 in
theorem MostAway_any (T : Tab) (a : Option Addr) (c : Nat) (w : World) (hx : T.zs.length ≤ 9223372036854775807) (h1 : IntsAt w a T.zs) :
    Calls Tryz.prog 18 #[tabV T a c] w fun e w' => e = .returned (.int .i64 (mostAway T)) ∧ Below w.heap.size w w' := by
  have S0 := tabBox c 27 h1
  cases hv : validB T
  · go_enter Tryz.func18, Tryz.ntmps18
    go_wp2_with fail
    refine (TableValid_any T a c _ hx (by exact S0.reads 1 rfl)).mono ?_
    rw [hv]
    rintro e w1 ⟨rfl, hb⟩
    have S1 := S0.below hb
    go_wp2
    go_ret
    exact ⟨ret_int (by simp [mostAway, hv]), S1.old⟩
  · obtain ⟨⟨l1, l2⟩, _⟩ := valid_facts hv
    have HM : Hid (mostTo T T.zs.length = mostAway T) := Lib.hid (by simp [mostAway, hv])
    have HB : Hid (∀ j, 0 ≤ mostTo T j ∧ mostTo T j ≤ 15 * j + 15) := Lib.hid fun j => by have := mostTo_bounds T l2 j; omega
    have HW : Hid (∀ s : Int, -1 ≤ awayOf T s ∧ awayOf T s ≤ 15) := Lib.hid fun s => awayOf_bounds T s l2
    go_enter Tryz.func18, Tryz.ntmps18
    go_wp2_with fail
    refine (TableValid_any T a c _ hx (by exact S0.reads 1 rfl)).mono ?_
    rw [hv]
    rintro e w1 ⟨rfl, hb⟩
    have S1 := S0.below hb
    clear S0 hb
    obtain ⟨x0, x1, x2, x3, x4, x5, xz⟩ := facts3 (S1.cells 0 rfl)
    go_wp2_with fail
    clear x0 x1 x2 x3 x4 x5 xz
    go_loopw [3, 11] (fun m i wr => ∃ (j : Nat), j ≤ T.zs.length ∧ i = .int .i64 j ∧ m = .int .i64 (mostTo T j) ∧
        St w wr [It.box w.heap.size #[.int .i64 T.t, .int .i64 T.p, .slice a T.zs.length c] 27, It.read w.heap.size a T.zs]) (fun _ i _ => T.zs.length - (intOf i).toNat)
    case atStart => exact ⟨0, Nat.zero_le _, rfl, rfl, S1⟩
    case round =>
      obtain ⟨j, hj, rfl, rfl, Sr⟩ := hrel
      clear S1
      by_cases hlt : j < T.zs.length
      · obtain ⟨x0, x1, x2, x3, x4, x5, xz⟩ := facts3 (Sr.cells 0 rfl)
        have HAW := Lib.hid (AwayOf_any T a c (j : Int))
        have hS : mostTo T (j + 1) = max (mostTo T j) (awayOf T (j : Int)) := rfl
        obtain ⟨b0, b1⟩ := HB.out j
        obtain ⟨a0, a1⟩ := HW.out (j : Int)
        generalize awayOf T (j : Int) = aw at hS HAW a0 a1
        generalize mostTo T j = m at hS b0 b1 ⊢
        go_wp2_with fail
        clear x0 x1 x2 x3 x4 x5 xz
        refine (HAW.out _ hx (by exact Sr.reads 1 rfl)).mono ?_
        rintro e w5 ⟨rfl, hb⟩
        have S5 := Sr.below hb
        clear Sr hb
        go_wp2
        go_roundw
        case rel => exact ⟨j + 1, by omega, by go_num, by rw [hS]; first | rfl | (congr 1; omega), S5⟩
        case measure => simp [intOf]; omega
      · obtain rfl : j = T.zs.length := by omega
        go_wp2
        go_ret
        exact ⟨by rw [HM.out]; rfl, Sr.old⟩

end Go.Proofs.YtpncpeokdcolpaaGreatDoor

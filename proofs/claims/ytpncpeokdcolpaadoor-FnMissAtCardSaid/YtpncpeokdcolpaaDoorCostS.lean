/-
  MissAt, MissVisits, WorstMiss and HitVisits of the model.
-/
import Derived.BigQuiet
import Derived.Test.YtpncpeokdcolpaaDoorFairAll
import Derived.Test.YtpncpeokdcolpaaDoorBase
import Derived.Test.YtpncpeokdcolpaaDoorMath
import Derived.Test.YtpncpeokdcolpaaDoorLost
import Derived.Test.YtpncpeokdcolpaaDoorWay
import Derived.Test.YtpncpeokdcolpaaDoorAway
namespace Go.Proofs.YtpncpeokdcolpaaDoor
open Go.RowKit

set_option maxRecDepth 100000 in
set_option maxHeartbeats 4000000 in
theorem l12Miss_any (T : Tab) (a : Option Addr) (c h : Nat) (w : World) (hv : validB T = true) (hh : h < T.zs.length) (h1 : IntsAt w a T.zs) :
    Calls Tryd.prog 22 #[tabV T a c, .int .i64 h] w fun e w' => e = .returned (.int .i64 (missN T h : Nat)) ∧ Below w.heap.size w w' := by
  obtain ⟨⟨l1, l2⟩, _⟩ := valid_facts hv
  have S0 := tabBox c 25 h1
  have HM : Hid (missN T h = cntN (freeAt T h) T.zs.length) := Lib.hid rfl
  obtain ⟨x0, x1, x2, x3, x4, x5, xz⟩ := facts3 (S0.cells 0 rfl)
  generalize missN T h = mm at HM
  go_enter Tryd.func22, Tryd.ntmps22
  go_wp2_with fail
  clear x0 x1 x2 x3 x4 x5 xz
  go_loopw [11] (fun i wr => ∃ (d : Nat), d ≤ T.zs.length ∧ i = .int .i64 d ∧ Hid (∀ j, j < d → freeAt T h j = false) ∧
      St w wr [It.box w.heap.size #[.int .i64 T.t, .int .i64 T.p, .slice a T.zs.length c] 25, It.read w.heap.size a T.zs]) (fun i _ => T.zs.length - (intOf i).toNat)
  case atStart => exact ⟨0, Nat.zero_le _, rfl, Lib.hid fun j hj => by omega, S0⟩
  case round =>
    obtain ⟨d, hd, rfl, HF, Sr⟩ := hrel
    clear S0
    by_cases hlt : d < T.zs.length
    · have hst := stepS_lt (T := T) l1 h d
      have hq := step_cast T h d
      have HP : Hid (freeAt T h d = (nth T.zs (stepS T h d) == -1)) := Lib.hid rfl
      generalize stepS T h d = s at hst hq HP
      obtain ⟨x0, x1, x2, x3, x4, x5, xz⟩ := facts3 (Sr.cells 0 rfl)
      obtain ⟨b, o, x, rfl, q, X⟩ := (Sr.reads 1 rfl).at hst
      rw [X.out] at HP
      have s0 : (0 : Int) ≤ (s : Int) := by omega
      have s1 : (s : Int) < (T.zs.length : Int) := by omega
      have hn1 : ((T.zs.length : Int) == 0) = false := beq_eq_false_iff_ne.2 (by omega)
      cases e1 : (x == -1)
      · have HF2 := Lib.hid (stop_step HF.out (by rw [HP.out, e1]))
        go_wp2_with fail
        go_quiet (fail)
        go_wp2
        go_roundw
        case rel => exact ⟨d + 1, by omega, by go_num, HF2, Sr.below (below_drewN (Below.refl _ _) _)⟩
        case measure => simp [intOf]; omega
      · have HV : Hid (mm = d + 1) := Lib.hid (by rw [HM.out]; exact cntN_stop hlt HF.out (by rw [HP.out, e1]))
        go_wp2_with fail
        go_quiet (fail)
        go_wp2
        go_ret
        exact ⟨by rw [HV.out]; go_num, below_drewN Sr.old _⟩
    · obtain rfl : d = T.zs.length := by omega
      have HV : Hid (mm = T.zs.length) := Lib.hid (by rw [HM.out]; exact cntN_all HF.out)
      go_wp2
      go_ret
      exact ⟨by rw [HV.out]; rfl, Sr.old⟩

set_option maxRecDepth 100000 in
set_option maxHeartbeats 1000000 in
theorem specMissAt_any (T : Tab) (a : Option Addr) (c : Nat) (home : Int) (w : World) (hx : T.zs.length ≤ 9223372036854775807) (h1 : IntsAt w a T.zs) :
    Calls Tryd.prog 6 #[tabV T a c, .int .i64 home] w fun e w' => e = .returned (.int .i64 (missI T home)) ∧ Below w.heap.size w w' := by
  have S0 := tabBox c 25 h1
  cases hv : validB T
  · go_enter Tryd.func6, Tryd.ntmps6
    go_wp2_with fail
    refine (specTableValid_any T a c _ hx (by exact S0.reads 1 rfl)).mono ?_
    rw [hv]
    rintro e w1 ⟨rfl, hb⟩
    have S1 := S0.below hb
    go_wp2
    go_ret
    exact ⟨by simp [missI, hv], S1.old⟩
  · obtain ⟨⟨l1, l2⟩, _⟩ := valid_facts hv
    cases hi : inB home 0 (T.zs.length - 1)
    · go_enter Tryd.func6, Tryd.ntmps6
      go_wp2_with fail
      refine (specTableValid_any T a c _ hx (by exact S0.reads 1 rfl)).mono ?_
      rw [hv]
      rintro e w1 ⟨rfl, hb⟩
      have S1 := S0.below hb
      obtain ⟨x0, x1, x2, x3, x4, x5, xz⟩ := facts3 (S1.cells 0 rfl)
      go_wp2_with (first | (go_at_call 21; refine (l1In_any _ _ _ _).mono ?_; rintro e w' ⟨rfl, rfl⟩))
      go_ret
      exact ⟨by simp [missI, hi], S1.old⟩
    · obtain ⟨s0, s1⟩ := inB_iff.1 hi
      obtain ⟨h, rfl⟩ : ∃ h : Nat, home = h := ⟨home.toNat, by omega⟩
      have hh : h < T.zs.length := by omega
      have R : Hid (missI T h = (missN T h : Nat)) := Lib.hid (by simp [missI, hv, hi])
      go_enter Tryd.func6, Tryd.ntmps6
      go_wp2_with fail
      refine (specTableValid_any T a c _ hx (by exact S0.reads 1 rfl)).mono ?_
      rw [hv]
      rintro e w1 ⟨rfl, hb⟩
      have S1 := S0.below hb
      clear S0 hb
      obtain ⟨x0, x1, x2, x3, x4, x5, xz⟩ := facts3 (S1.cells 0 rfl)
      go_wp2_with (first
        | (go_at_call 21; refine (l1In_any _ _ _ _).mono ?_; rintro e w' ⟨rfl, rfl⟩)
        | (go_at_call 22; refine (l12Miss_any T a c h _ hv hh (by exact S1.reads 1 rfl)).mono ?_; rintro e w2 ⟨rfl, hb⟩; have S2 := S1.below hb))
      go_ret
      exact ⟨by rw [R.out]; rfl, S2.old⟩

end Go.Proofs.YtpncpeokdcolpaaDoor

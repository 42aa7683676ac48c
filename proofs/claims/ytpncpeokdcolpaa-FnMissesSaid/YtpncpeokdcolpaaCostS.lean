/-
  MissAt, MissVisits, WorstMiss and HitVisits of the model.
-/
import Derived.BigQuiet
import Derived.Test.YtpncpeokdcolpaaQuietR
import Derived.Test.YtpncpeokdcolpaaBase
import Derived.Test.YtpncpeokdcolpaaMath
import Derived.Test.YtpncpeokdcolpaaLost
import Derived.Test.YtpncpeokdcolpaaWay
import Derived.Test.YtpncpeokdcolpaaAway
namespace Go.Proofs.Ytpncpeokdcolpaa
open Go.RowKit

set_option maxRecDepth 100000 in
set_option maxHeartbeats 4000000 in
theorem l12Miss_any (T : Tab) (a : Option Addr) (c h : Nat) (w : World) (hv : validB T = true) (hh : h < T.zs.length) (h1 : IntsAt w a T.zs) :
    Calls Try.prog 39 #[tabV T a c, .int .i64 h] w fun e w' => e = .returned (.int .i64 (missN T h : Nat)) ∧ Below w.heap.size w w' := by
  obtain ⟨⟨l1, l2⟩, _⟩ := valid_facts hv
  have S0 := tabBox c 27 h1
  have HM : Hid (missN T h = cntN (freeAt T h) T.zs.length) := Lib.hid rfl
  obtain ⟨x0, x1, x2, x3, x4, x5, xz⟩ := facts3 (S0.cells 0 rfl)
  generalize missN T h = mm at HM
  go_enter Try.func39, Try.ntmps39
  go_wp2_with fail
  clear x0 x1 x2 x3 x4 x5 xz
  go_loopw [11] (fun i wr => ∃ (d : Nat), d ≤ T.zs.length ∧ i = .int .i64 d ∧ Hid (∀ j, j < d → freeAt T h j = false) ∧
      St w wr [It.box w.heap.size #[.int .i64 T.t, .int .i64 T.p, .slice a T.zs.length c] 27, It.read w.heap.size a T.zs]) (fun i _ => T.zs.length - (intOf i).toNat)
  case atStart => exact ⟨0, Nat.zero_le _, rfl, Lib.hid fun j hj => by omega, S0⟩
  case round =>
    obtain ⟨d, hd, rfl, HF, Sr⟩ := hrel
    clear S0
    by_cases hlt : d < T.zs.length
    · have hst := stepS_lt (T := T) l1 h d
      have hq := step_cast T h d
      have HP : Hid (freeAt T h d = (nth T.zs (stepS T h d) == -1)) := Lib.hid rfl
      generalize stepS T h d = s at hst hq HP
      obtain ⟨x0, x1, x2, x3, x4, x5, xz⟩ := facts3 (Sr.cells 0 rfl)
      obtain ⟨b, o, x, rfl, q, X⟩ := (Sr.reads 1 rfl).at hst
      rw [X.out] at HP
      have s0 : (0 : Int) ≤ (s : Int) := by omega
      have s1 : (s : Int) < (T.zs.length : Int) := by omega
      have hn1 : ((T.zs.length : Int) == 0) = false := beq_eq_false_iff_ne.2 (by omega)
      cases e1 : (x == -1)
      · have HF2 := Lib.hid (stop_step HF.out (by rw [HP.out, e1]))
        go_wp2_with fail
        go_quiet (fail)
        go_wp2
        go_roundw
        case rel => exact ⟨d + 1, by omega, by go_num, HF2, Sr.below (below_drewN (Below.refl _ _) _)⟩
        case measure => simp [intOf]; omega
      · have HV : Hid (mm = d + 1) := Lib.hid (by rw [HM.out]; exact cntN_stop hlt HF.out (by rw [HP.out, e1]))
        go_wp2_with fail
        go_quiet (fail)
        go_wp2
        go_ret
        exact ⟨by rw [HV.out]; go_num, below_drewN Sr.old _⟩
    · obtain rfl : d = T.zs.length := by omega
      have HV : Hid (mm = T.zs.length) := Lib.hid (by rw [HM.out]; exact cntN_all HF.out)
      go_wp2
      go_ret
      exact ⟨by rw [HV.out]; rfl, Sr.old⟩

set_option maxRecDepth 100000 in
set_option maxHeartbeats 1000000 in
theorem specMissAt_any (T : Tab) (a : Option Addr) (c : Nat) (home : Int) (w : World) (hx : T.zs.length ≤ 9223372036854775807) (h1 : IntsAt w a T.zs) :
    Calls Try.prog 15 #[tabV T a c, .int .i64 home] w fun e w' => e = .returned (.int .i64 (missI T home)) ∧ Below w.heap.size w w' := by
  have S0 := tabBox c 27 h1
  cases hv : validB T
  · go_enter Try.func15, Try.ntmps15
    go_wp2_with fail
    refine (specTableValid_any T a c _ hx (by exact S0.reads 1 rfl)).mono ?_
    rw [hv]
    rintro e w1 ⟨rfl, hb⟩
    have S1 := S0.below hb
    go_wp2
    go_ret
    exact ⟨by simp [missI, hv], S1.old⟩
  · obtain ⟨⟨l1, l2⟩, _⟩ := valid_facts hv
    cases hi : inB home 0 (T.zs.length - 1)
    · go_enter Try.func15, Try.ntmps15
      go_wp2_with fail
      refine (specTableValid_any T a c _ hx (by exact S0.reads 1 rfl)).mono ?_
      rw [hv]
      rintro e w1 ⟨rfl, hb⟩
      have S1 := S0.below hb
      obtain ⟨x0, x1, x2, x3, x4, x5, xz⟩ := facts3 (S1.cells 0 rfl)
      go_wp2_with (first | (go_at_call 38; refine (l1In_any _ _ _ _).mono ?_; rintro e w' ⟨rfl, rfl⟩))
      go_ret
      exact ⟨by simp [missI, hi], S1.old⟩
    · obtain ⟨s0, s1⟩ := inB_iff.1 hi
      obtain ⟨h, rfl⟩ : ∃ h : Nat, home = h := ⟨home.toNat, by omega⟩
      have hh : h < T.zs.length := by omega
      have R : Hid (missI T h = (missN T h : Nat)) := Lib.hid (by simp [missI, hv, hi])
      go_enter Try.func15, Try.ntmps15
      go_wp2_with fail
      refine (specTableValid_any T a c _ hx (by exact S0.reads 1 rfl)).mono ?_
      rw [hv]
      rintro e w1 ⟨rfl, hb⟩
      have S1 := S0.below hb
      clear S0 hb
      obtain ⟨x0, x1, x2, x3, x4, x5, xz⟩ := facts3 (S1.cells 0 rfl)
      go_wp2_with (first
        | (go_at_call 38; refine (l1In_any _ _ _ _).mono ?_; rintro e w' ⟨rfl, rfl⟩)
        | (go_at_call 39; refine (l12Miss_any T a c h _ hv hh (by exact S1.reads 1 rfl)).mono ?_; rintro e w2 ⟨rfl, hb⟩; have S2 := S1.below hb))
      go_ret
      exact ⟨by rw [R.out]; rfl, S2.old⟩

set_option maxRecDepth 100000 in
set_option maxHeartbeats 4000000 in
theorem specMissVisits_any (T : Tab) (a : Option Addr) (c : Nat) (w : World) (hx : T.zs.length ≤ 9223372036854775807) (h1 : IntsAt w a T.zs) :
    Calls Try.prog 17 #[tabV T a c] w fun e w' => e = .returned (.int .i64 (missAll T)) ∧ Below w.heap.size w w' := by
  have S0 := tabBox c 27 h1
  cases hv : validB T
  · go_enter Try.func17, Try.ntmps17
    go_wp2_with fail
    refine (specTableValid_any T a c _ hx (by exact S0.reads 1 rfl)).mono ?_
    rw [hv]
    rintro e w1 ⟨rfl, hb⟩
    have S1 := S0.below hb
    go_wp2
    go_ret
    exact ⟨by simp [missAll, hv], S1.old⟩
  · obtain ⟨⟨l1, l2⟩, _⟩ := valid_facts hv
    have R : Hid (missAll T = (missTo T T.zs.length : Nat)) := Lib.hid (by simp [missAll, hv])
    have HV := Lib.hid hv
    go_enter Try.func17, Try.ntmps17
    go_wp2_with fail
    refine (specTableValid_any T a c _ hx (by exact S0.reads 1 rfl)).mono ?_
    rw [HV.out]
    rintro e w1 ⟨rfl, hb⟩
    have S1 := S0.below hb
    clear S0 hb
    obtain ⟨x0, x1, x2, x3, x4, x5, xz⟩ := facts3 (S1.cells 0 rfl)
    go_wp2_with fail
    clear x0 x1 x2 x3 x4 x5 xz
    go_loopw [3, 11] (fun s i wr => ∃ (d : Nat), d ≤ T.zs.length ∧ i = .int .i64 d ∧ s = .int .i64 (missTo T d : Nat) ∧
        St w wr [It.box w.heap.size #[.int .i64 T.t, .int .i64 T.p, .slice a T.zs.length c] 27, It.read w.heap.size a T.zs]) (fun _ i _ => T.zs.length - (intOf i).toNat)
    case atStart => exact ⟨0, Nat.zero_le _, rfl, rfl, S1⟩
    case round =>
      obtain ⟨d, hd, rfl, rfl, Sr⟩ := hrel
      clear S1
      by_cases hlt : d < T.zs.length
      · obtain ⟨x0, x1, x2, x3, x4, x5, xz⟩ := facts3 (Sr.cells 0 rfl)
        have HS := Lib.hid (missTo_succ T d)
        have HM := Lib.hid fun W h => l12Miss_any T a c d W HV.out hlt h
        have hm : missN T d ≤ 16 := by have := (cntN_bounds (p := freeAt T d) l1).2; unfold missN; omega
        have ht : missTo T d ≤ 256 := Nat.le_trans (missTo_le l1 d) (Nat.mul_le_mul (show d ≤ 16 by omega) l2)
        generalize missN T d = m at hm HM HS
        generalize hsd : missTo T (d + 1) = sd at HS
        generalize missTo T d = sm at ht HS
        have HSD := Lib.hid hsd
        clear hsd
        go_wp2_with fail
        refine (HM.out _ (by exact Sr.reads 1 rfl)).mono ?_
        rintro e w2 ⟨rfl, hb⟩
        have S2 := Sr.below hb
        clear Sr hb x0 x1 x2 x3 x4 x5 xz
        go_wp2
        go_roundw
        case rel => exact ⟨d + 1, by omega, by go_num, by rw [HSD.out, HS.out]; go_num, S2⟩
        case measure => simp [intOf]; omega
      · obtain rfl : d = T.zs.length := by omega
        go_wp2
        go_ret
        exact ⟨by rw [R.out]; rfl, Sr.old⟩

set_option maxRecDepth 100000 in
set_option maxHeartbeats 4000000 in
theorem specWorstMiss_any (T : Tab) (a : Option Addr) (c : Nat) (w : World) (hx : T.zs.length ≤ 9223372036854775807) (h1 : IntsAt w a T.zs) :
    Calls Try.prog 19 #[tabV T a c] w fun e w' => e = .returned (.int .i64 (worstI T)) ∧ Below w.heap.size w w' := by
  have S0 := tabBox c 27 h1
  cases hv : validB T
  · go_enter Try.func19, Try.ntmps19
    go_wp2_with fail
    refine (specTableValid_any T a c _ hx (by exact S0.reads 1 rfl)).mono ?_
    rw [hv]
    rintro e w1 ⟨rfl, hb⟩
    have S1 := S0.below hb
    go_wp2
    go_ret
    exact ⟨by simp [worstI, hv], S1.old⟩
  · obtain ⟨⟨l1, l2⟩, _⟩ := valid_facts hv
    have R : Hid (worstI T = (worstTo T T.zs.length : Nat)) := Lib.hid (by simp [worstI, hv])
    have HV := Lib.hid hv
    go_enter Try.func19, Try.ntmps19
    go_wp2_with fail
    refine (specTableValid_any T a c _ hx (by exact S0.reads 1 rfl)).mono ?_
    rw [HV.out]
    rintro e w1 ⟨rfl, hb⟩
    have S1 := S0.below hb
    clear S0 hb
    obtain ⟨x0, x1, x2, x3, x4, x5, xz⟩ := facts3 (S1.cells 0 rfl)
    go_wp2_with fail
    clear x0 x1 x2 x3 x4 x5 xz
    go_loopw [3, 11] (fun s i wr => ∃ (d : Nat), d ≤ T.zs.length ∧ i = .int .i64 d ∧ s = .int .i64 (worstTo T d : Nat) ∧
        St w wr [It.box w.heap.size #[.int .i64 T.t, .int .i64 T.p, .slice a T.zs.length c] 27, It.read w.heap.size a T.zs]) (fun _ i _ => T.zs.length - (intOf i).toNat)
    case atStart => exact ⟨0, Nat.zero_le _, rfl, rfl, S1⟩
    case round =>
      obtain ⟨d, hd, rfl, rfl, Sr⟩ := hrel
      clear S1
      by_cases hlt : d < T.zs.length
      · obtain ⟨x0, x1, x2, x3, x4, x5, xz⟩ := facts3 (Sr.cells 0 rfl)
        have hwl : worstTo T d < T.zs.length := Nat.lt_of_le_of_lt (worstTo_le T d) hlt
        have HS : Hid (worstTo T (d + 1) = if missN T (worstTo T d) < missN T d then d else worstTo T d) := Lib.hid rfl
        have HM := Lib.hid fun W h => l12Miss_any T a c d W HV.out hlt h
        generalize hq2 : worstTo T (d + 1) = q2 at HS
        have HQ2 := Lib.hid hq2
        clear hq2
        generalize worstTo T d = q1 at hwl HS
        have HM2 := Lib.hid fun W h => l12Miss_any T a c q1 W HV.out hwl h
        generalize missN T d = m at HM HS
        generalize missN T q1 = m2 at HM2 HS
        go_wp2_with fail
        have hmix : Try.prog.follows .mixedOrders = true := by kernel_rfl
        have hz : w.heap.size < wr.heap.size := Sr.sz 0 rfl
        refine (wpIn_wide (n := 9)).1 ?_
        refine wpIn_region_quietR (fun w' => Below wr.heap.size wr w') hmix (by kernel_rfl) (by kernel_rfl) ((Below.refl _ _).drew) ?_
        refine wpQuietIn_step (fun _ _ _ _ => trivial) (fun K hK => ?_)
        go_simp
        refine ⟨tabV T a c, fun w' hb => ?_, hK _ ?_⟩
        · have q0 := (hb.cell (p := ⟨w.heap.size, 0, none⟩) (by show w.heap.size < _; omega)).trans x0
          have q1 := (hb.cell (p := ⟨w.heap.size, 1, none⟩) (by show w.heap.size < _; omega)).trans x1
          have q2 := (hb.cell (p := ⟨w.heap.size, 2, none⟩) (by show w.heap.size < _; omega)).trans x2
          unfold tabV
          go_simp
        clear hK K
        refine wpQuietIn_step (fun _ _ _ _ => trivial) (fun K hK => ?_)
        go_simp
        refine ⟨_, fun w' hb => rfl, hK _ ?_⟩
        clear hK K
        refine wpQuietIn_step (fun _ _ _ _ => trivial) (fun K hK => ?_)
        go_simp
        refine ⟨.int .i64 (m : Nat), fun w' hb => (callsIn_wide.2 (HM.out w' (by exact (Sr.below hb).reads 1 rfl))).mono ?_, hK _ ?_⟩
        · rintro e w10 ⟨rfl, hb6⟩
          exact ⟨rfl, hb.trans (hb6.mono hb.size)⟩
        clear hK K
        refine wpQuietIn_step (fun _ _ _ _ => trivial) (fun K hK => ?_)
        go_simp
        refine ⟨tabV T a c, fun w' hb => ?_, hK _ ?_⟩
        · have q0 := (hb.cell (p := ⟨w.heap.size, 0, none⟩) (by show w.heap.size < _; omega)).trans x0
          have q1 := (hb.cell (p := ⟨w.heap.size, 1, none⟩) (by show w.heap.size < _; omega)).trans x1
          have q2 := (hb.cell (p := ⟨w.heap.size, 2, none⟩) (by show w.heap.size < _; omega)).trans x2
          unfold tabV
          go_simp
        clear hK K
        refine wpQuietIn_step (fun _ _ _ _ => trivial) (fun K hK => ?_)
        go_simp
        refine ⟨_, fun w' hb => rfl, hK _ ?_⟩
        clear hK K
        refine wpQuietIn_step (fun _ _ _ _ => trivial) (fun K hK => ?_)
        go_simp
        refine ⟨.int .i64 (m2 : Nat), fun w' hb => (callsIn_wide.2 (HM2.out w' (by exact (Sr.below hb).reads 1 rfl))).mono ?_, hK _ ?_⟩
        · rintro e w10 ⟨rfl, hb6⟩
          exact ⟨rfl, hb.trans (hb6.mono hb.size)⟩
        clear hK K
        refine wpQuietIn_step (fun _ _ _ _ => trivial) (fun K hK => ?_)
        go_simp
        refine ⟨_, fun w' hb => rfl, hK _ ?_⟩
        clear hK K
        refine fun w10 hb => ?_
        have S3 := Sr.below hb
        by_cases hc : m2 < m
        · have d1 : decide ((m : Int) > (m2 : Int)) = true := decide_eq_true (by omega)
          have d2 : decide ((m2 : Int) < (m : Int)) = true := decide_eq_true (by omega)
          go_wp2
          go_roundw
          case rel => exact ⟨d + 1, by omega, by go_num, by rw [HQ2.out, HS.out, if_pos hc], S3⟩
          case measure => simp [intOf]; omega
        · have d1 : decide ((m : Int) > (m2 : Int)) = false := decide_eq_false (by omega)
          have d2 : decide ((m2 : Int) < (m : Int)) = false := decide_eq_false (by omega)
          go_wp2
          go_roundw
          case rel => exact ⟨d + 1, by omega, by go_num, by rw [HQ2.out, HS.out, if_neg hc], S3⟩
          case measure => simp [intOf]; omega
      · obtain rfl : d = T.zs.length := by omega
        go_wp2
        go_ret
        exact ⟨by rw [R.out]; rfl, Sr.old⟩

end Go.Proofs.Ytpncpeokdcolpaa

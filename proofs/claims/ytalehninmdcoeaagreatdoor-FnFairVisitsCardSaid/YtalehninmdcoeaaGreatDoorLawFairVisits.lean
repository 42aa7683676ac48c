/-
  The law FnFairVisits: the walk.
-/
import Derived.Test.YtalehninmdcoeaaGreatDoorDraws2All
import Derived.Test.YtalehninmdcoeaaGreatDoorFairAll
import Derived.Test.YtalehninmdcoeaaGreatDoorModel6All
import Derived.Test.YtalehninmdcoeaaGreatDoorBase
import Derived.Test.YtalehninmdcoeaaGreatDoorVisits
import Derived.Test.YtalehninmdcoeaaGreatDoorMost
import Derived.Test.YtalehninmdcoeaaGreatDoorFindI
import Derived.Test.YtalehninmdcoeaaGreatDoorDrawn
namespace Go.Proofs.YtalehninmdcoeaaGreatDoor
open Go.RowKit

theorem mostTo_ge (T : Tab) {i n : Nat} (hi : i < n) : awayOf T i ≤ mostTo T n := by
  induction n with
  | zero => omega
  | succ n ih =>
    simp only [mostTo]
    by_cases e : i = n
    · subst e; omega
    · have := ih (by omega); omega

theorem pass_before {T : Tab} {key : Int} {d : Nat} (hd : d < passN T key) : aheadB T (stepS T (homeN T key) d) key d = true := by
  have := goN_free hd
  simpa using this

theorem fairvis_cases (T : Tab) (key : Int) : fairVis T key = -1 ∨
    ∃ P vN h : Nat, ∃ m : Int, fairVis T key = (P : Int) + 1 ∧ validB T = true ∧ visOf T key = (vN : Int) ∧ P + 1 ≤ vN ∧ vN ≤ 16 ∧ mostAway T = m ∧ (P : Int) + 1 ≤ m + 2 ∧ 0 ≤ m ∧ m ≤ 15 ∧ homeOf T key = (h : Int) ∧ h < T.zs.length ∧ T.zs.length ≤ 16 ∧ P < 16 ∧
      (findOf T key = -1 ∨ (findOf T key = (stepS T h P : Nat) ∧ vN = P + 1)) := by
  cases ha : (fairB T && inB key 0 99)
  · left; simp [fairVis, ha]
  · right
    simp only [Bool.and_eq_true] at ha
    obtain ⟨hf, hk⟩ := ha
    obtain ⟨k0, k9⟩ := inB_iff.1 hk
    obtain ⟨hp, hm, hto⟩ := fair_parts hf
    obtain ⟨hs, hv, _⟩ := plain_parts hp
    obtain ⟨⟨l1, l2⟩, _⟩ := valid_facts hv
    have hh := homeN_lt hv key
    have he := homeN_eq hv key
    have hpl := pass_lt hv hm key
    have hmb := mostTo_bounds T l2 T.zs.length
    have ev : visOf T key = (visN T key (homeN T key) : Int) := by simp [visOf, hv, hk]
    have hvb := visN_bounds l1 key (homeN T key)
    -- the first slot at which a search ends
    obtain ⟨d, hd, ed⟩ := free_step hh hm
    have hst : goN (stopAt T key (homeN T key)) T.zs.length < T.zs.length := by
      refine Nat.lt_of_le_of_lt (Nat.le_of_not_lt fun hlt => ?_) hd
      have := goN_free hlt
      simp [stopAt, ed] at this
    have hstop := goN_stop hst
    have hpd : passN T key ≤ goN (stopAt T key (homeN T key)) T.zs.length := by
      refine Nat.le_of_not_lt fun hlt => ?_
      have h1 := pass_before hlt
      have h2 : nth T.zs (stepS T (homeN T key) (goN (stopAt T key (homeN T key)) T.zs.length)) = -1 ∨ nth T.zs (stepS T (homeN T key) (goN (stopAt T key (homeN T key)) T.zs.length)) = key := by
        simpa [stopAt] using hstop
      rw [stop_same hv k0 hst h2] at h1
      cases h1
    have hvn : visN T key (homeN T key) = goN (stopAt T key (homeN T key)) T.zs.length + 1 := by unfold visN; omega
    refine ⟨passN T key, visN T key (homeN T key), homeN T key, mostTo T T.zs.length, by simp [fairVis, hf, hk], hv, ev, by omega, by omega, by unfold mostAway; rw [if_pos hv], ?_, hmb.1, hmb.2, by rw [he]; exact (homeOf_yes hv hk).symm, hh, l2, by omega, ?_⟩
    · by_cases h0 : passN T key = 0
      · omega
      · have h1 := pass_before (T := T) (key := key) (d := passN T key - 1) (by omega)
        have h2 : ((passN T key - 1 : Nat) : Int) ≤ awayOf T (stepS T (homeN T key) (passN T key - 1) : Nat) := by
          unfold aheadB at h1
          simp only [Bool.or_eq_true, Bool.and_eq_true, decide_eq_true_eq, beq_iff_eq] at h1
          omega
        have h3 := mostTo_ge T (stepS_lt (T := T) l1 (homeN T key) (passN T key - 1))
        omega
    · by_cases hfi : 0 ≤ findI T key
      · right
        obtain ⟨e1, e2⟩ := find_yes hfi
        have hkl : lastOf T key < T.zs.length := lastOf_lt l1 _
        generalize lastOf T key = k at e1 e2 hkl
        have hsl := fairTo_iff.1 hto k hkl
        have hps := (pass_self hv hkl (by omega)).2 hsl
        obtain ⟨_, a2, a3⟩ := away_self hv hkl (by omega)
        rw [e2] at hps a3
        rw [← hps] at a2 a3
        refine ⟨by simp [findOf, hv, hk, e1, a3], ?_⟩
        refine visN_stop a2 (fun j hj => ?_) (by simp [stopAt, a3, e2])
        have h1 := pass_before hj
        cases hsj : stopAt T key (homeN T key) j
        · rfl
        · have h2 : nth T.zs (stepS T (homeN T key) j) = -1 ∨ nth T.zs (stepS T (homeN T key) j) = key := by simpa [stopAt] using hsj
          rw [stop_same hv k0 (by omega) h2] at h1
          cases h1
      · left
        have := (find_no (Int.not_le.1 hfi)).1
        simp [findOf, hv, hk, this]

set_option maxHeartbeats 4000000 in
theorem walkFnFairVisits (w : World) (a : Option Addr) (len cap : Nat) (zs : List Int) (h : IsRow .u8 w a len cap zs) (hL : Laid w) :
    Calls Tryz.prog 3 #[.slice a len cap] w fun e w' => e = .returned (.bool true) ∧ Below w.heap.size w w' := by
  obtain ⟨ys, rfl, hC, S0⟩ := came_of h
  clear h
  by_cases hs : ys.length ≤ 1048576
  · have t1 : decide (1048576 < (ys.length : Int)) = false := by simp; omega
    go_enter Tryz.func3, Tryz.ntmps3
    go_wp2_with fail
    refine (DrawFairVisits_any (by exact S0) hC).mono ?_
    rintro e w1 ⟨T, a1, c1, lo, hi, key, rfl, hT, ⟨k1, k2⟩, hlo, S1⟩
    obtain ⟨n1, n2⟩ := hT.len
    have S2 := S1.alloc #[.int .i64 T.t, .int .i64 T.p, .slice a1 T.zs.length c1] 25
    have HV := Lib.hid fun (W : World) (h : IntsAt W a1 T.zs) (hl : Laid W) => FairVisits_any T a1 c1 key W (by omega) h hl
    have HS := Lib.hid fun (W : World) (h : IntsAt W a1 T.zs) => specFairVisits_any T a1 c1 key W (by omega) h
    clear S0 hC t1 hs hT
    rcases fairvis_cases T key with e1 | ⟨P, vN, h, m, e1, hv, e2, b1, b2, e3, b3, b4, b5, e4, b6, b7, b8, hor⟩
    · rw [e1] at HV HS
      clear e1
      have L2 := hL.below S2.old hL.pos
      obtain ⟨x0, x1, x2, x3, x4, x5, xz⟩ := facts3 (S2.cells 0 rfl)
      go_wp2_with fail
      clear x0 x1 x2 x3 x4 x5 xz
      refine (HV.out _ (by exact S2.ints 1 rfl) L2).mono ?_
      rintro e w2 ⟨rfl, hb⟩
      have S3 := S2.below hb
      clear S2 S1 hb L2
      obtain ⟨x0, x1, x2, x3, x4, x5, xz⟩ := facts3 (S3.cells 0 rfl)
      go_wp2_with fail
      clear x0 x1 x2 x3 x4 x5 xz
      refine (HS.out _ (by exact S3.ints 1 rfl)).mono ?_
      rintro e w3 ⟨rfl, hb⟩
      have S4 := S3.below hb
      clear S3 hb
      obtain ⟨x0, x1, x2, x3, x4, x5, xz⟩ := facts3 (S4.cells 0 rfl)
      go_wp2_with fail
      clear x0 x1 x2 x3 x4 x5 xz
      refine (HS.out _ (by exact S4.ints 1 rfl)).mono ?_
      rintro e w4 ⟨rfl, hb⟩
      have S5 := S4.below hb
      go_wp2_with fail
      go_ret
      exact ⟨rfl, S5.old⟩
    · rw [e1] at HV HS
      have HF := Lib.hid fun (W : World) (h : IntsAt W a1 T.zs) (hl : Laid W) => FindKey_any T a1 c1 key W (by omega) h hl
      have HH := Lib.hid fun (W : World) (h : IntsAt W a1 T.zs) => HomeOf_any T a1 c1 key W (by omega) h
      have HN := Lib.hid fun (W : World) (h : IntsAt W a1 T.zs) => VisitsFor_any T a1 c1 key W (by omega) h
      have HM := Lib.hid fun (W : World) (h : IntsAt W a1 T.zs) => MostAway_any T a1 c1 W (by omega) h
      rw [e4] at HH
      rw [e2] at HN
      rw [e3] at HM
      have HSM : Hid (((h : Int) + (P : Int)).tmod (T.zs.length : Int) = (stepS T h P : Nat)) := Lib.hid (by rw [Int.tmod_eq_emod_of_nonneg (by omega)]; simp [stepS])
      clear e1 e2 e3 e4 hv
      have L2 := hL.below S2.old hL.pos
      have d0 : decide (((P : Int) + 1) < 0) = false := decide_eq_false (by omega)
      have ln : ((T.zs.length : Int) == 0) = false := beq_eq_false_iff_ne.2 (by omega)
      have ln2 : (T.zs.length == 0) = false := beq_eq_false_iff_ne.2 (by omega)
      have ln3 : ¬ T.zs = [] := by intro e; rw [e] at n1; simp at n1
      have u1 : IntKind.i64.wrap ((h : Int) + ((P : Int) + 1)) = (h : Int) + ((P : Int) + 1) := IntWalk.i64_in _ (by omega)
      have u2 : IntKind.i64.wrap ((h : Int) + ((P : Int) + 1) - 1) = (h : Int) + (P : Int) := by rw [IntWalk.i64_in _ (by omega)]; omega
      have u3 : IntKind.i64.wrap (m + 2) = m + 2 := IntWalk.i64_in _ (by omega)
      have dv : decide ((P : Int) + 1 ≤ (vN : Int)) = true := decide_eq_true (by omega)
      have dm : decide ((P : Int) + 1 ≤ m + 2) = true := decide_eq_true (by omega)
      have hem : ((h : Int) + (P : Int)) % (T.zs.length : Int) = (stepS T h P : Nat) := by simp [stepS]
      generalize hst : stepS T h P = st at HSM hor hem
      clear hst
      rcases hor with e5 | ⟨e5, e6⟩
      · rw [e5] at HF
        clear e5
        obtain ⟨x0, x1, x2, x3, x4, x5, xz⟩ := facts3 (S2.cells 0 rfl)
        go_wp2_with fail
        clear x0 x1 x2 x3 x4 x5 xz
        refine (HV.out _ (by exact S2.ints 1 rfl) L2).mono ?_
        rintro e w2 ⟨rfl, hb⟩
        have S3 := S2.below hb
        clear S2 S1 hb L2
        obtain ⟨x0, x1, x2, x3, x4, x5, xz⟩ := facts3 (S3.cells 0 rfl)
        go_wp2_with fail
        clear x0 x1 x2 x3 x4 x5 xz
        refine (HS.out _ (by exact S3.ints 1 rfl)).mono ?_
        rintro e w3 ⟨rfl, hb⟩
        have S4 := S3.below hb
        clear S3 hb
        have L4 := hL.below S4.old hL.pos
        obtain ⟨x0, x1, x2, x3, x4, x5, xz⟩ := facts3 (S4.cells 0 rfl)
        go_wp2_with fail
        clear x0 x1 x2 x3 x4 x5 xz
        refine (HF.out _ (by exact S4.ints 1 rfl) L4).mono ?_
        rintro e w4 ⟨rfl, hb⟩
        have S5 := S4.below hb
        clear S4 hb L4
        obtain ⟨x0, x1, x2, x3, x4, x5, xz⟩ := facts3 (S5.cells 0 rfl)
        go_wp2_with fail
        go_region_held3 (fun w' => w'.cell? ⟨w1.heap.size, 0, none⟩ = some (.int .i64 T.t) ∧ w'.cell? ⟨w1.heap.size, 1, none⟩ = some (.int .i64 T.p) ∧ w'.cell? ⟨w1.heap.size, 2, none⟩ = some (.slice a1 T.zs.length c1))
          (first
            | exact ⟨x0, x1, x2⟩
            | exact S6.three 0 rfl)
          (first
            | (go_at_call 15; refine (HH.out _ (by exact S5.drew.ints 1 rfl)).mono ?_; rintro e w5 ⟨rfl, hb⟩; have S6 := S5.drew.below hb; clear hb))
        clear S5 x0 x1 x2 x3 x4 x5 xz
        obtain ⟨x0, x1, x2, x3, x4, x5, xz⟩ := facts3 (S6.cells 0 rfl)
        go_wp2_with fail
        clear x0 x1 x2 x3 x4 x5 xz
        refine (HN.out _ (by exact S6.ints 1 rfl)).mono ?_
        rintro e w6 ⟨rfl, hb⟩
        have S7 := S6.below hb
        clear S6 hb
        obtain ⟨x0, x1, x2, x3, x4, x5, xz⟩ := facts3 (S7.cells 0 rfl)
        go_wp2_with fail
        clear x0 x1 x2 x3 x4 x5 xz
        refine (HM.out _ (by exact S7.ints 1 rfl)).mono ?_
        rintro e w7 ⟨rfl, hb⟩
        have S8 := S7.below hb
        clear S7 hb
        obtain ⟨x0, x1, x2, x3, x4, x5, xz⟩ := facts3 (S8.cells 0 rfl)
        go_wp2_with fail
        go_ret
        exact ⟨rfl, S8.old⟩
      · rw [e5] at HF
        subst e6
        have lz : decide ((0 : Int) ≤ (st : Int)) = true := decide_eq_true (by omega)
        have q1 : ((st : Int) == (st : Int)) = true := beq_self_eq_true _
        have q2 : (((P : Int) + 1) == ((P + 1 : Nat) : Int)) = true := by simp
        have q3 : ((P + 1 : Nat) : Int) = (P : Int) + 1 := by omega
        rw [q3] at HN dv
        have q4 : (((P : Int) + 1) == ((P : Int) + 1)) = true := beq_self_eq_true _
        clear e5 q2 q3
        obtain ⟨x0, x1, x2, x3, x4, x5, xz⟩ := facts3 (S2.cells 0 rfl)
        go_wp2_with fail
        clear x0 x1 x2 x3 x4 x5 xz
        refine (HV.out _ (by exact S2.ints 1 rfl) L2).mono ?_
        rintro e w2 ⟨rfl, hb⟩
        have S3 := S2.below hb
        clear S2 S1 hb L2
        obtain ⟨x0, x1, x2, x3, x4, x5, xz⟩ := facts3 (S3.cells 0 rfl)
        go_wp2_with fail
        clear x0 x1 x2 x3 x4 x5 xz
        refine (HS.out _ (by exact S3.ints 1 rfl)).mono ?_
        rintro e w3 ⟨rfl, hb⟩
        have S4 := S3.below hb
        clear S3 hb
        have L4 := hL.below S4.old hL.pos
        obtain ⟨x0, x1, x2, x3, x4, x5, xz⟩ := facts3 (S4.cells 0 rfl)
        go_wp2_with fail
        clear x0 x1 x2 x3 x4 x5 xz
        refine (HF.out _ (by exact S4.ints 1 rfl) L4).mono ?_
        rintro e w4 ⟨rfl, hb⟩
        have S5 := S4.below hb
        clear S4 hb L4
        obtain ⟨x0, x1, x2, x3, x4, x5, xz⟩ := facts3 (S5.cells 0 rfl)
        go_wp2_with fail
        go_region_held3 (fun w' => w'.cell? ⟨w1.heap.size, 0, none⟩ = some (.int .i64 T.t) ∧ w'.cell? ⟨w1.heap.size, 1, none⟩ = some (.int .i64 T.p) ∧ w'.cell? ⟨w1.heap.size, 2, none⟩ = some (.slice a1 T.zs.length c1))
          (first
            | exact ⟨x0, x1, x2⟩
            | exact S6.three 0 rfl)
          (first
            | (go_at_call 15; refine (HH.out _ (by exact S5.drew.ints 1 rfl)).mono ?_; rintro e w5 ⟨rfl, hb⟩; have S6 := S5.drew.below hb; clear hb))
        clear S5 x0 x1 x2 x3 x4 x5 xz
        obtain ⟨x0, x1, x2, x3, x4, x5, xz⟩ := facts3 (S6.cells 0 rfl)
        go_wp2_with fail
        clear x0 x1 x2 x3 x4 x5 xz
        refine (HN.out _ (by exact S6.ints 1 rfl)).mono ?_
        rintro e w6 ⟨rfl, hb⟩
        have S7 := S6.below hb
        clear S6 hb
        obtain ⟨x0, x1, x2, x3, x4, x5, xz⟩ := facts3 (S7.cells 0 rfl)
        go_wp2_with fail
        clear x0 x1 x2 x3 x4 x5 xz
        refine (HM.out _ (by exact S7.ints 1 rfl)).mono ?_
        rintro e w7 ⟨rfl, hb⟩
        have S8 := S7.below hb
        clear S7 hb
        obtain ⟨x0, x1, x2, x3, x4, x5, xz⟩ := facts3 (S8.cells 0 rfl)
        go_wp2_with fail
        clear x0 x1 x2 x3 x4 x5 xz
        refine (HN.out _ (by exact S8.ints 1 rfl)).mono ?_
        rintro e w8 ⟨rfl, hb⟩
        have S9 := S8.below hb
        go_wp2_with fail
        go_ret
        exact ⟨rfl, S9.old⟩
  · have t1 : decide (1048576 < (ys.length : Int)) = true := by simp; omega
    go_enter Tryz.func3, Tryz.ntmps3
    go_wp2_with fail
    go_ret
    exact ⟨rfl, S0.old⟩

end Go.Proofs.YtalehninmdcoeaaGreatDoor

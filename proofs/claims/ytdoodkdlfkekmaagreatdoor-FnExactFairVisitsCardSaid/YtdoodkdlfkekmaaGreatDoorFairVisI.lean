/-
  The program's FairVisits.
-/
import Derived.Test.YtdoodkdlfkekmaaGreatDoorFairI
import Derived.Test.YtdoodkdlfkekmaaGreatDoorFairVisS
namespace Go.Proofs.YtdoodkdlfkekmaaGreatDoor
open Go.RowKit Go.Shelf
attribute [local go_sem] Oper.semAt_some

theorem fair_valid {T : Tab} (h : fairB T = true) : validB T = true := (plain_parts (fair_parts h).1).2.1

set_option maxRecDepth 100000 in
set_option maxHeartbeats 4000000 in
theorem FairVisits_any (T : Tab) (a : Option Addr) (c : Nat) (key : Int) (w : World) (hx : T.zs.length ≤ 9223372036854775807) (h1 : IntsAt w a T.zs) (hL : Laid w) :
    Calls Tryz.prog 14 #[tabV T a c, .int .i64 key] w fun e w' => e = .returned (.int .i64 (fairVis T key)) ∧ Below w.heap.size w w' := by
  have S0 := tabBox c 27 h1
  have HF : Hid (fairVis T key = if fairB T && inB key 0 99 then (passN T key : Int) + 1 else -1) := Lib.hid rfl
  have hL0 := hL.below S0.old hL.pos
  cases hf : fairB T
  · go_enter Tryz.func14, Tryz.ntmps14
    go_wp2_with fail
    refine (IsFair_any T a c _ hx (by exact S0.reads 1 rfl) hL0).mono ?_
    rw [hf]
    rintro e w1 ⟨rfl, hb⟩
    have S1 := S0.below hb
    go_wp2
    go_ret
    exact ⟨by rw [HF.out, hf]; rfl, S1.old⟩
  · cases hk : inB key 0 99
    · go_enter Tryz.func14, Tryz.ntmps14
      go_wp2_with fail
      refine (IsFair_any T a c _ hx (by exact S0.reads 1 rfl) hL0).mono ?_
      rw [hf]
      rintro e w1 ⟨rfl, hb⟩
      have S1 := S0.below hb
      go_wp2_with fail
      refine (isKey_any _ _).mono ?_
      rw [hk]
      rintro e w2 ⟨rfl, rfl⟩
      go_wp2
      go_ret
      exact ⟨by rw [HF.out, hf, hk]; rfl, S1.old⟩
    · have hv := fair_valid hf
      obtain ⟨⟨l1, l2⟩, _⟩ := valid_facts hv
      obtain ⟨k0, k9⟩ := inB_iff.1 hk
      have hpn : passN T key ≤ 16 := Nat.le_trans (goN_le _ _) l2
      have HV := Lib.hid hv
      have HFB := Lib.hid hf
      have HKB := Lib.hid hk
      have HE : Hid (fairVis T key = (passN T key : Int) + 1) := Lib.hid (by rw [HF.out, hf, hk]; rfl)
      clear hf hk hv HF
      go_enter Tryz.func14, Tryz.ntmps14
      go_wp2_with fail
      refine (IsFair_any T a c _ hx (by exact S0.reads 1 rfl) hL0).mono ?_
      rw [HFB.out]
      rintro e w1 ⟨rfl, hb⟩
      have S1 := S0.below hb
      clear S0 hb hL0
      go_wp2_with fail
      refine (isKey_any _ _).mono ?_
      rw [HKB.out]
      rintro e w2 ⟨rfl, rfl⟩
      go_wp2_with fail
      obtain ⟨x0, x1, x2, x3, x4, x5, xz⟩ := facts3 (S1.cells 0 rfl)
      have HST := Lib.hid fun (W' : World) (h : IntsAt W' a T.zs) => startOf_any T a c key W' HV.out k0 k9 h
      have HPA := Lib.hid fun (g : Nat) (W' : World) (hR : RingAt W' g T) (hg : g < W'.heap.size) => passed_any T g key W' HV.out hR hg
      generalize passN T key = pv at *
      generalize homeN T key = hv at *
      clear hL
      go_region_held3 (fun w' => w'.cell? ⟨w.heap.size, 0, none⟩ = some (.int .i64 T.t) ∧ w'.cell? ⟨w.heap.size, 1, none⟩ = some (.int .i64 T.p) ∧ w'.cell? ⟨w.heap.size, 2, none⟩ = some (.slice a T.zs.length c))
        (first
          | exact ⟨x0, x1, x2⟩
          | exact S2.three 0 rfl
          | exact S3.three 0 rfl
          | exact S4.three 0 rfl)
        (first
          | (go_at_call 46; refine (laneOf_any T a c _ (by exact S1.drew.reads 1 rfl) HV.out).mono ?_; rintro e w2 ⟨g, rfl, hR, hg, hgo, hb⟩; have S2 := S1.drew.below hb; clear hb)
          | (go_at_call 48; refine (HST.out _ (by exact S2.reads 1 rfl)).mono ?_; rintro e w3 ⟨rfl, hb⟩; have S3 := S2.below hb; have R3 := hR.below hb hg; have hg3 := Nat.lt_of_lt_of_le hg hb.size; clear hb)
          | (go_at_call 47; refine (HPA.out g _ R3 hg3).mono ?_; rintro e w4 ⟨rfl, hb⟩; have S4 := S3.below hb; clear hb))
      have HW : Hid (IntKind.i64.wrap ((pv : Int) + 1) = (pv : Int) + 1) := Lib.hid (IntWalk.i64_in _ (by omega))
      go_wp2_with fail
      refine bodyPost_ret (v := .int .i64 ((pv : Int) + 1)) (by simp [results, Tryz.results14, go_sem]; exact HW.out) rfl ⟨by rw [HE.out], S4.old⟩

end Go.Proofs.YtdoodkdlfkekmaaGreatDoor

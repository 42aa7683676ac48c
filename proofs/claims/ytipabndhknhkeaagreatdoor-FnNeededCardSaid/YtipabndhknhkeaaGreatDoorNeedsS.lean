/-
  Whether a slot is needed: the model's.
-/
import Derived.Test.YtipabndhknhkeaaGreatDoorMath
import Derived.Test.YtipabndhknhkeaaGreatDoorAway
import Derived.Test.YtipabndhknhkeaaGreatDoorLost
import Derived.Test.YtipabndhknhkeaaGreatDoorLostI
import Derived.Test.YtipabndhknhkeaaGreatDoorBase
namespace Go.Proofs.YtipabndhknhkeaaGreatDoor
open Go.RowKit

theorem needP_int {T : Tab} (hv : validB T = true) {i k : Nat} {x : Int} (hi : i < T.zs.length) (hk : k < T.zs.length) (hx : nth T.zs k = x) (h0 : 0 ≤ x) :
    needP T i k = decide (((i : Int) - homeI T x) % (T.zs.length : Int) < ((k : Int) - homeI T x) % (T.zs.length : Int)) := by
  have hh := homeN_lt hv x
  have e := homeN_eq hv x
  have hc : ∀ j : Nat, j < T.zs.length → ((j : Int) - homeI T x) % (T.zs.length : Int) = (((j + T.zs.length - homeN T x) % T.zs.length : Nat) : Int) := fun j hj => by
    rw [← e, Int.natCast_emod]
    have : ((j + T.zs.length - homeN T x : Nat) : Int) = ((j : Int) - (homeN T x : Int)) + T.zs.length := by omega
    rw [this, Int.add_emod_right]
  unfold needP awayN
  rw [hx, hc i hi, hc k hk, decide_eq_true h0, Bool.true_and]
  rw [Bool.eq_iff_iff]
  simp only [decide_eq_true_eq]
  omega

theorem needOf_yes {T : Tab} {i k : Nat} (hk : k < T.zs.length) (h : needP T i k = true) : needOf T i = true := by
  unfold needOf
  rw [List.any_eq_true]
  exact ⟨k, List.mem_range.2 hk, h⟩
theorem needOf_no {T : Tab} {i : Nat} (h : ∀ j, j < T.zs.length → needP T i j = false) : needOf T i = false := by
  unfold needOf
  rw [List.any_eq_false]
  intro j hj
  rw [h j (List.mem_range.1 hj)]
  simp
theorem need_more {T : Tab} {i k : Nat} (h : ∀ j, j < k → needP T i j = false) (hk : needP T i k = false) : ∀ j, j < k + 1 → needP T i j = false := fun j hj => by
  by_cases e : j = k
  · subst e; exact hk
  · exact h j (by omega)

set_option maxHeartbeats 2000000 in
theorem l4Needs_any (T : Tab) (a : Option Addr) (c i : Nat) (w : World) (hv : validB T = true) (hi : i < T.zs.length) (h1 : IntsAt w a T.zs) :
    Calls Tryz.prog 61 #[tabV T a c, .int .i64 i] w fun e w' => e = .returned (.bool (needOf T i)) ∧ Below w.heap.size w w' := by
  obtain ⟨⟨l1, l2⟩, _⟩ := valid_facts hv
  have S0 := ((St.start w).read h1).alloc #[.int .i64 T.t, .int .i64 T.p, .slice a T.zs.length c] 28
  have HV := Lib.hid hv
  clear hv
  obtain ⟨x0, x1, x2, x3, x4, x5, xz⟩ := facts3 (S0.cells 0 rfl)
  go_enter Tryz.func61, Tryz.ntmps61
  go_wp2_with fail
  clear x0 x1 x2 x3 x4 x5 xz
  go_loopw [5, 6, 7, 11] (fun _ _ _ j wr => ∃ k : Nat, k ≤ T.zs.length ∧ j = .int .i64 k ∧ Hid (∀ j, j < k → needP T i j = false) ∧ St w wr [It.box w.heap.size #[.int .i64 T.t, .int .i64 T.p, .slice a T.zs.length c] 28, It.read w.heap.size a T.zs]) (fun _ _ _ j _ => T.zs.length - (intOf j).toNat)
  case atStart => exact ⟨0, Nat.zero_le _, rfl, Lib.hid (fun j hj => by omega), S0⟩
  case round =>
    obtain ⟨k, hk, rfl, HF, Sr⟩ := hrel
    clear S0
    by_cases hlt : k < T.zs.length
    · have k0 : (0 : Int) ≤ (k : Int) := by omega
      have k1 : (k : Int) < (T.zs.length : Int) := by omega
      have hb := valid_slot HV.out hlt
      obtain ⟨b, o, x, rfl, q, X⟩ := (Sr.reads 1 rfl).at hlt
      rw [X.out] at hb
      obtain ⟨x0, x1, x2, x3, x4, x5, xz⟩ := facts3 (Sr.cells 0 rfl)
      by_cases h0 : x < 0
      · have d0 : decide (x < 0) = true := decide_eq_true h0
        have HF2 := Lib.hid (need_more HF.out (by
          unfold needP
          rw [X.out, decide_eq_false (by omega : ¬ 0 ≤ x)]
          rfl))
        go_wp2
        go_roundw
        case rel => exact ⟨k + 1, by omega, by go_num, HF2, Sr⟩
        case measure => simp [intOf]; omega
      · have d0 : decide (x < 0) = false := decide_eq_false h0
        have HP := Lib.hid (needP_int HV.out hi hlt X.out (by omega))
        have hhb := homeI_bounds HV.out x
        have HA := Lib.hid fun W => l1Away_any T (some ⟨b, o, none⟩) c (homeI T x) (i : Int) W l1 l2 hhb.1 hhb.2 (by omega) (by omega)
        have HB := Lib.hid fun W => l1Away_any T (some ⟨b, o, none⟩) c (homeI T x) (k : Int) W l1 l2 hhb.1 hhb.2 (by omega) (by omega)
        have HH := Lib.hid fun W => l1Home_any T (some ⟨b, o, none⟩) c x W HV.out (by omega) (by omega)
        generalize homeI T x = hh at HA HB HH HP hhb
        generalize ((i : Int) - hh) % (T.zs.length : Int) = A at HA HP
        generalize ((k : Int) - hh) % (T.zs.length : Int) = B at HB HP
        go_wp2_with fail
        refine (HH.out _).mono ?_
        rintro e w1 ⟨rfl, hb⟩
        have S1 := Sr.below hb
        clear Sr hb x0 x1 x2 x3 x4 x5 xz q
        obtain ⟨x0, x1, x2, x3, x4, x5, xz⟩ := facts3 (S1.cells 0 rfl)
        go_wp2_with fail
        go_region_held3 (fun w' => w'.cell? ⟨w.heap.size, 0, none⟩ = some (.int .i64 T.t) ∧ w'.cell? ⟨w.heap.size, 1, none⟩ = some (.int .i64 T.p) ∧ w'.cell? ⟨w.heap.size, 2, none⟩ = some (.slice (some ⟨b, o, none⟩) T.zs.length c))
          (first
            | exact ⟨x0, x1, x2⟩
            | exact S2.three 0 rfl
            | exact S3.three 0 rfl)
          (first
            | ((with_reducible refine (HA.out _).mono ?_); rintro e w2 ⟨rfl, hb⟩; have S2 := S1.drew.below hb; clear hb)
            | ((with_reducible refine (HB.out _).mono ?_); rintro e w3 ⟨rfl, hb⟩; have S3 := S2.below hb; clear hb))
        clear x0 x1 x2 x3 x4 x5 xz S1 S2
        by_cases hAB : A < B
        · have dd : decide (A < B) = true := decide_eq_true hAB
          have R : Hid (needOf T i = true) := Lib.hid (needOf_yes hlt (by rw [HP.out]; exact dd))
          go_wp2
          go_ret
          exact ⟨by rw [R.out]; rfl, S3.old⟩
        · have dd : decide (A < B) = false := decide_eq_false hAB
          have HF2 := Lib.hid (need_more HF.out (by rw [HP.out]; exact dd))
          go_wp2
          go_roundw
          case rel => exact ⟨k + 1, by omega, by go_num, HF2, S3⟩
          case measure => simp [intOf]; omega
    · obtain rfl : k = T.zs.length := by omega
      have R : Hid (needOf T i = false) := Lib.hid (needOf_no HF.out)
      go_wp2
      go_ret
      exact ⟨by rw [R.out]; rfl, Sr.old⟩

end Go.Proofs.YtipabndhknhkeaaGreatDoor

/-
  Fair tables: several texts as one.
-/
import Derived.Test.YtkdkdmjhhgllgaaGreatDoorShelf
import Derived.Test.YtkdkdmjhhgllgaaGreatDoorMath
import Derived.Test.YtkdkdmjhhgllgaaGreatDoorShiftsAll
import Derived.Test.YtkdkdmjhhgllgaaGreatDoorCount
import Derived.Test.YtkdkdmjhhgllgaaGreatDoorShiftAllI
import Derived.Test.YtkdkdmjhhgllgaaGreatDoorAreKeys
section
namespace Go.Proofs.YtkdkdmjhhgllgaaGreatDoor
open Go.RowKit

/-- A slot's key stands ahead of another one. -/
theorem ahead_if' {T : Tab} {s : Nat} {key : Int} {d : Nat} {aw : Int} (h : awayOf T s = aw) : aheadB T s key d = (decide ((d : Int) < aw) || (aw == (d : Int)) && decide (nth T.zs s < key)) := by
  unfold aheadB; rw [h]

set_option maxHeartbeats 2000000 in
theorem l6Ahead_any (T : Tab) (a : Option Addr) (c s : Nat) (key : Int) (d : Nat) (w : World) (hv : validB T = true) (hs : s < T.zs.length) (h0 : 0 ≤ nth T.zs s) (h1 : IntsAt w a T.zs) :
    Calls Tryz.prog 55 #[tabV T a c, .int .i64 s, .int .i64 key, .int .i64 d] w fun e w' => e = .returned (.bool (aheadB T s key d)) ∧ Below w.heap.size w w' := by
  obtain ⟨⟨l1, l2⟩, _⟩ := valid_facts hv
  have h9 := (valid_slot hv hs).2
  obtain ⟨b, o, x, rfl, q, X⟩ := h1.at hs
  have hX := X.out
  rw [hX] at h0 h9
  have hh := homeN_lt hv x
  have hhe := homeN_eq hv x
  have HA : Hid (aheadB T s key d = (decide ((d : Int) < (dst T.zs.length (homeN T x) s : Nat)) || ((dst T.zs.length (homeN T x) s : Nat) : Int) == (d : Int) && decide (x < key))) := Lib.hid (by
    have e := awN_of (T := T) (zs := T.zs) hv rfl hs (by rw [hX]; exact h0)
    have e : awayOf T s = (awN T T.zs s : Nat) := e
    rw [ahead_if' e, hX]
    unfold awN
    rw [hX])
  have HCH := Lib.hid fun W => l1Home_any T (some ⟨b, o, none⟩) c x W hv h0 h9
  rw [← hhe] at HCH
  have HCA : Hid (∀ W, Calls Tryz.prog 54 #[tabV T (some ⟨b, o, none⟩) c, .int .i64 (homeN T x : Nat), .int .i64 s] W fun e W' => e = .returned (.int .i64 (dst T.zs.length (homeN T x) s : Nat)) ∧ Below W.heap.size W W') := Lib.hid fun W => by
    have h := l1Away_any T (some ⟨b, o, none⟩) c (homeN T x : Nat) (s : Int) W l1 l2 (by omega) (by omega) (by omega) (by omega)
    rw [dst_int hh hs] at h
    exact h
  have S0 := tabBox c 25 h1
  have q' := (Below.refl w.heap.size w |>.alloc (Nat.le_refl _) (.cells #[.int .i64 T.t, .int .i64 T.p, .slice (some ⟨b, o, none⟩) T.zs.length c] 25)).cell (p := ⟨b, o + s, none⟩) (World.block_lt_of_cell? w _ q)
  rw [q] at q'
  obtain ⟨x0, x1, x2, x3, x4, x5, xz⟩ := facts3 (S0.cells 0 rfl)
  have s0 : (0 : Int) ≤ (s : Int) := by omega
  have s1 : (s : Int) < (T.zs.length : Int) := by omega
  generalize homeN T x = hm at HA HCH HCA
  generalize dst T.zs.length hm s = aw at HA HCA
  go_enter Tryz.func55, Tryz.ntmps55
  have SD := S0.drew
  go_wp2_with fail
  go_region_held3 (fun w' => w'.cell? ⟨w.heap.size, 0, none⟩ = some (.int .i64 T.t) ∧ w'.cell? ⟨w.heap.size, 1, none⟩ = some (.int .i64 T.p) ∧ w'.cell? ⟨w.heap.size, 2, none⟩ = some (.slice (some ⟨b, o, none⟩) T.zs.length c))
    (first
      | exact ⟨x0, x1, x2⟩
      | exact SD.three 0 rfl)
    (first
      | (go_at_call 53; refine (HCH.out _).mono ?_; rintro e w5 ⟨rfl, hb⟩; replace SD := SD.below hb; clear hb)
      | (go_at_call 54; refine (HCA.out _).mono ?_; rintro e w5 ⟨rfl, hb⟩; replace SD := SD.below hb; clear hb))
  clear x0 x1 x2 x3 x4 x5 xz q q'
  by_cases c1 : d < aw
  · have c2 : (d : Int) < (aw : Int) := by omega
    have HR : Hid (aheadB T s key d = true) := Lib.hid (by rw [HA.out, decide_eq_true c2]; rfl)
    go_wp2
    go_ret
    exact ⟨by rw [HR.out]; rfl, SD.old⟩
  · have c2 : ¬ (d : Int) < (aw : Int) := by omega
    by_cases c3 : aw = d
    · subst c3
      have HR : Hid (aheadB T s key aw = decide (x < key)) := Lib.hid (by rw [HA.out, decide_eq_false c2]; simp)
      go_wp2
      go_ret
      exact ⟨by rw [HR.out]; rfl, SD.old⟩
    · have c4 : ((aw : Int) == (d : Int)) = false := beq_eq_false_iff_ne.2 (by omega)
      have c5 : (aw == d) = false := beq_eq_false_iff_ne.2 c3
      have HR : Hid (aheadB T s key d = false) := Lib.hid (by rw [HA.out, decide_eq_false c2, c4]; rfl)
      go_wp2
      go_ret
      exact ⟨by rw [HR.out]; rfl, SD.old⟩

set_option maxRecDepth 100000 in
set_option maxHeartbeats 4000000 in
theorem specIsFair_any (T : Tab) (a : Option Addr) (c : Nat) (w : World) (hx : T.zs.length ≤ 9223372036854775807) (h1 : IntsAt w a T.zs) :
    Calls Tryz.prog 23 #[tabV T a c] w fun e w' => e = .returned (.bool (fairB T)) ∧ Below w.heap.size w w' := by
  have S0 := tabBox c 25 h1
  have HC := Lib.hid fun (W : World) (h : IntsAt W a T.zs) => specCountSlots_any T a c W hx h
  have HP := Lib.hid fun (W : World) (h : IntsAt W a T.zs) => l5Plain_any T a c W hx h
  cases hp : plainB T
  · have E : Hid (fairB T = false) := Lib.hid (by simp [fairB, hp])
    rw [hp] at HP
    generalize countF T = cf at HC
    go_enter Tryz.func23, Tryz.ntmps23
    go_wp2_with fail
    refine (HC.out _ (by exact S0.reads 1 rfl)).mono ?_
    rintro e w1 ⟨rfl, hb⟩
    have S1 := S0.below hb
    clear S0 hb
    obtain ⟨x0, x1, x2, x3, x4, x5, xz⟩ := facts3 (S1.cells 0 rfl)
    go_wp2_with fail
    refine (HP.out _ (by exact S1.reads 1 rfl)).mono ?_
    rintro e w2 ⟨rfl, hb⟩
    have S2 := S1.below hb
    go_wp2
    go_ret
    exact ⟨by rw [E.out]; rfl, S2.old⟩
  · obtain ⟨_, hv, ht⟩ := plain_parts hp
    obtain ⟨⟨l1, l2⟩, _⟩ := valid_facts hv
    rw [hp] at HP
    have HF : Hid (countF T = 0 ↔ -1 ∉ T.zs) := Lib.hid (by
      unfold countF cnt
      rw [if_pos hv, List.take_length]
      constructor
      · intro h hm
        have : 0 < T.zs.countP freeP := List.countP_pos_iff.2 ⟨-1, hm, rfl⟩
        omega
      · intro h
        have : T.zs.countP freeP = 0 := List.countP_eq_zero.2 fun z hz e => h (by
          have : z = -1 := by simpa [freeP] using e
          rw [← this]; exact hz)
        omega)
    by_cases hf : countF T = 0
    · have E : Hid (fairB T = false) := Lib.hid (by simp [fairB, HF.out.1 hf])
      rw [hf] at HC
      go_enter Tryz.func23, Tryz.ntmps23
      go_wp2_with fail
      refine (HC.out _ (by exact S0.reads 1 rfl)).mono ?_
      rintro e w1 ⟨rfl, hb⟩
      have S1 := S0.below hb
      clear S0 hb
      obtain ⟨x0, x1, x2, x3, x4, x5, xz⟩ := facts3 (S1.cells 0 rfl)
      go_wp2_with fail
      refine (HP.out _ (by exact S1.reads 1 rfl)).mono ?_
      rintro e w2 ⟨rfl, hb⟩
      have S2 := S1.below hb
      go_wp2
      go_ret
      exact ⟨by rw [E.out]; rfl, S2.old⟩
    · have hfm : -1 ∈ T.zs := Decidable.byContradiction fun h => hf (HF.out.2 h)
      have E : Hid (fairB T = fairTo T T.zs.length) := Lib.hid (by simp [fairB, hp, hfm])
      have hfb : (countF T == 0) = false := beq_eq_false_iff_ne.2 hf
      have HPL := Lib.hid hp
      clear HF hfm
      generalize countF T = cf at HC hf hfb
      go_enter Tryz.func23, Tryz.ntmps23
      go_wp2_with fail
      refine (HC.out _ (by exact S0.reads 1 rfl)).mono ?_
      rintro e w1 ⟨rfl, hb⟩
      have S1 := S0.below hb
      clear S0 hb
      obtain ⟨x0, x1, x2, x3, x4, x5, xz⟩ := facts3 (S1.cells 0 rfl)
      go_wp2_with fail
      refine (HP.out _ (by exact S1.reads 1 rfl)).mono ?_
      rintro e w2 ⟨rfl, hb⟩
      have S2 := S1.below hb
      clear S1 hb x0 x1 x2 x3 x4 x5 xz HC HP
      obtain ⟨x0, x1, x2, x3, x4, x5, xz⟩ := facts3 (S2.cells 0 rfl)
      go_wp2_with fail
      clear x0 x1 x2 x3 x4 x5 xz
      go_loopw [30] (fun i wr => ∃ (j : Nat), j ≤ T.zs.length ∧ i = .int .i64 j ∧ Hid (fairTo T j = true) ∧
          St w wr [It.box w.heap.size #[.int .i64 T.t, .int .i64 T.p, .slice a T.zs.length c] 25, It.read w.heap.size a T.zs]) (fun i _ => T.zs.length - (intOf i).toNat)
      case atStart => exact ⟨0, Nat.zero_le _, rfl, Lib.hid rfl, S2⟩
      case round =>
        obtain ⟨j, hj, rfl, HT, Sr⟩ := hrel
        clear S2
        by_cases hlt : j < T.zs.length
        · obtain ⟨x0, x1, x2, x3, x4, x5, xz⟩ := facts3 (Sr.cells 0 rfl)
          have j0 : (0 : Int) ≤ (j : Int) := by omega
          have j1 : (j : Int) < (T.zs.length : Int) := by omega
          obtain ⟨b, o, x, rfl, q, X⟩ := (Sr.reads 1 rfl).at hlt
          have hx9 := (valid_slot hv hlt).2
          have hSL : slotB T j = (decide (x < 0) || wayB T j (awN T T.zs j)) := by unfold slotB; rw [X.out]
          have HSU := Lib.hid (fairTo_succ T j)
          rw [X.out] at hx9
          by_cases hx0 : x < 0
          · have HS : Hid (fairTo T (j + 1) = true) := Lib.hid (by rw [HSU.out, HT.out, hSL, decide_eq_true hx0]; rfl)
            have dx : decide (x < 0) = true := decide_eq_true hx0
            clear hSL HSU
            go_wp2
            go_roundw
            case rel => exact ⟨j + 1, by omega, by go_num, HS, Sr⟩
            case measure => simp [intOf]; omega
          · have dx : decide (x < 0) = false := decide_eq_false hx0
            rw [dx, Bool.false_or] at hSL
            have hh := homeN_lt hv x
            have hhe := homeN_eq hv x
            have HSL := Lib.hid hSL
            have HNF : Hid (slotB T j = false → fairTo T T.zs.length = false) := Lib.hid (fair_not hlt)
            have HCH := Lib.hid fun W => l1Home_any T (some ⟨b, o, none⟩) c x W hv (by omega) hx9
            rw [← hhe] at HCH
            have HCA : Hid (∀ W, Calls Tryz.prog 54 #[tabV T (some ⟨b, o, none⟩) c, .int .i64 (homeN T x : Nat), .int .i64 j] W fun e W' => e = .returned (.int .i64 (awN T T.zs j : Nat)) ∧ Below W.heap.size W W') := Lib.hid fun W => by
              have h := l1Away_any T (some ⟨b, o, none⟩) c (homeN T x : Nat) (j : Int) W l1 l2 (by omega) (by omega) (by omega) (by omega)
              rw [dst_int hh hlt] at h
              unfold awN
              rw [X.out]
              exact h
            have HAH : Hid (∀ (m : Nat) W, m < awN T T.zs j → IntsAt W (some ⟨b, o, none⟩) T.zs → Calls Tryz.prog 55 #[tabV T (some ⟨b, o, none⟩) c, .int .i64 (stepS T (homeN T x) m : Nat), .int .i64 x, .int .i64 m] W fun e W' => e = .returned (.bool (aheadB T (stepS T (homeN T x) m) x m)) ∧ Below W.heap.size W W') := Lib.hid fun m W hm hi => by
              have hL := plain_left HPL.out
              have hst := stepS_lt (T := T) l1 (homeN T x) m
              have hd := dst_lt hh hlt
              have hml : m < T.zs.length := by
                have : awN T T.zs j = dst T.zs.length (homeN T x) j := by unfold awN; rw [X.out]
                omega
              have hne := hL.way j hlt (by rw [X.out]; omega) m hm
              rw [X.out, ← fwd_step hh (by omega)] at hne
              exact l6Ahead_any T _ c _ x m W hv hst (plain_key HPL.out hst hne).1 hi
            have HW1 : Hid (∀ m, wayB T j (m + 1) = (wayB T j m && aheadB T (stepS T (homeN T x) m) x m)) := Lib.hid fun m => by rw [wayB_succ, X.out]
            have HWN : Hid (∀ m, m < awN T T.zs j → aheadB T (stepS T (homeN T x) m) x m = false → wayB T j (awN T T.zs j) = false) := Lib.hid fun m hm h => way_not hm (by rw [X.out]; exact h)
            have haw : awN T T.zs j < T.zs.length := (away_self hv hlt (by rw [X.out]; omega)).2.1
            generalize awN T T.zs j = aw at HCA HAH HWN HSL haw
            generalize homeN T x = hm at hh HCH HCA HAH HW1 HWN
            clear hhe hSL
            go_wp2_with fail
            clear x0 x1 x2 x3 x4 x5 xz q
            refine (HCH.out _).mono ?_
            rintro e w5 ⟨rfl, hb⟩
            have S5 := Sr.below hb
            clear Sr hb
            obtain ⟨x0, x1, x2, x3, x4, x5, xz⟩ := facts3 (S5.cells 0 rfl)
            go_wp2_with fail
            clear x0 x1 x2 x3 x4 x5 xz
            refine (HCA.out _).mono ?_
            rintro e w6 ⟨rfl, hb⟩
            have S6 := S5.below hb
            clear S5 hb
            go_wp2_with fail
            go_loopw [44] (fun i wr => ∃ (m : Nat), m ≤ aw ∧ i = .int .i64 m ∧ Hid (wayB T j m = true) ∧
                St w wr [It.box w.heap.size #[.int .i64 T.t, .int .i64 T.p, .slice (some ⟨b, o, none⟩) T.zs.length c] 25, It.read w.heap.size (some ⟨b, o, none⟩) T.zs]) (fun i _ => aw - (intOf i).toNat)
            case atStart => exact ⟨0, Nat.zero_le _, rfl, Lib.hid rfl, S6⟩
            case round =>
              obtain ⟨m, hm1, rfl, HWM, Sq⟩ := hrel
              clear S6
              by_cases hlm : m < aw
              · obtain ⟨x0, x1, x2, x3, x4, x5, xz⟩ := facts3 (Sq.cells 0 rfl)
                have hn1 : ((T.zs.length : Int) == 0) = false := beq_eq_false_iff_ne.2 (by omega)
                have hn2 : ¬ T.zs = [] := fun e => by rw [e] at l1; simp at l1
                have hn3 : ¬ (T.zs.length = 0) := by omega
                have hrem : ((hm : Int) + (m : Int)) % (T.zs.length : Int) = (stepS T hm m : Nat) := by unfold stepS; simp
                have hrem2 : (IntKind.i64.wrap ((hm : Int) + (m : Int))).tmod (T.zs.length : Int) = (stepS T hm m : Nat) := by
                  rw [← hrem]
                  have hw : IntKind.i64.wrap ((hm : Int) + (m : Int)) = (hm : Int) + (m : Int) := by simp only [IntKind.wrap_i64]; omega
                  rw [hw, Int.tmod_eq_emod_of_nonneg (by omega)]
                have HA2 := Lib.hid fun W (hi : IntsAt W (some ⟨b, o, none⟩) T.zs) => HAH.out m W hlm hi
                have HN2 := Lib.hid (HWN.out m hlm)
                have hstl := stepS_lt (T := T) l1 hm m
                generalize hst : stepS T hm m = st at hrem hrem2 HA2 HN2 hstl
                have HR2 := Lib.hid hrem2
                clear hrem hrem2
                have hW1 := HW1.out m
                rw [hst] at hW1
                have HW2 := Lib.hid hW1
                clear hW1 hst
                cases hah : aheadB T st x m
                · have HFN : Hid (fairTo T T.zs.length = false) := Lib.hid (HNF.out (by rw [HSL.out]; exact HN2.out hah))
                  rw [hah] at HA2
                  have SD := Sq.drew
                  go_wp2_with fail
                  go_region_held3 (fun w' => w'.cell? ⟨w.heap.size, 0, none⟩ = some (.int .i64 T.t) ∧ w'.cell? ⟨w.heap.size, 1, none⟩ = some (.int .i64 T.p) ∧ w'.cell? ⟨w.heap.size, 2, none⟩ = some (.slice (some ⟨b, o, none⟩) T.zs.length c))
                    (first
                      | exact ⟨x0, x1, x2⟩
                      | exact SD.three 0 rfl)
                    (first
                      | (go_at_call 55; rw [HR2.out]; refine (HA2.out _ (by exact SD.reads 1 rfl)).mono ?_; rintro e w7 ⟨rfl, hb⟩; replace SD := SD.below hb; clear hb))
                  go_wp2
                  go_ret
                  exact ⟨by rw [E.out, HFN.out]; rfl, SD.old⟩
                · have HWM2 : Hid (wayB T j (m + 1) = true) := Lib.hid (by rw [HW2.out, HWM.out, hah]; rfl)
                  rw [hah] at HA2
                  have SD := Sq.drew
                  go_wp2_with fail
                  go_region_held3 (fun w' => w'.cell? ⟨w.heap.size, 0, none⟩ = some (.int .i64 T.t) ∧ w'.cell? ⟨w.heap.size, 1, none⟩ = some (.int .i64 T.p) ∧ w'.cell? ⟨w.heap.size, 2, none⟩ = some (.slice (some ⟨b, o, none⟩) T.zs.length c))
                    (first
                      | exact ⟨x0, x1, x2⟩
                      | exact SD.three 0 rfl)
                    (first
                      | (go_at_call 55; rw [HR2.out]; refine (HA2.out _ (by exact SD.reads 1 rfl)).mono ?_; rintro e w7 ⟨rfl, hb⟩; replace SD := SD.below hb; clear hb))
                  go_wp2
                  go_roundw
                  case rel => exact ⟨m + 1, by omega, by go_num, HWM2, SD⟩
                  case measure => simp [intOf]; omega
              · obtain rfl : m = aw := by omega
                have HS : Hid (fairTo T (j + 1) = true) := Lib.hid (by rw [HSU.out, HT.out, HSL.out, HWM.out]; rfl)
                go_wp2
                go_roundw
                case rel => exact ⟨j + 1, by omega, by go_num, HS, Sq⟩
                case measure => simp [intOf]; omega
        · obtain rfl : j = T.zs.length := by omega
          go_wp2
          go_ret
          exact ⟨by rw [E.out, HT.out]; rfl, Sr.old⟩

end Go.Proofs.YtkdkdmjhhgllgaaGreatDoor
end

section
namespace Go.Proofs.YtkdkdmjhhgllgaaGreatDoor
open Go.RowKit

theorem next_step {T : Tab} {h d : Nat} : ((stepS T h d : Nat) + 1 : Int) % (T.zs.length : Int) = (stepS T h (d + 1) : Nat) := by
  unfold stepS
  have : (((h + d) % T.zs.length : Nat) + 1 : Int) % (T.zs.length : Int) = ((((h + d) % T.zs.length + 1) % T.zs.length : Nat) : Int) := by simp
  rw [this, Nat.mod_add_mod, Nat.add_assoc]

end Go.Proofs.YtkdkdmjhhgllgaaGreatDoor
end

section
namespace Go.Proofs.YtkdkdmjhhgllgaaGreatDoor
open Go.RowKit

theorem fputT_len (T : Tab) (key : Int) : (fputT T key).zs.length ≤ 16 := by
  unfold fputT
  split
  · rename_i h
    have F := fput_says h
    have h2 := (valid_facts F.val).1.2
    show (fputZ T key).length ≤ 16
    unfold fputZ
    rw [List.length_set, outF_len]
    exact h2
  · simp
theorem fswaps_len (T : Tab) (key : Int) : (fswaps T key).length ≤ 1000 := by
  unfold fswaps
  split
  · rename_i h
    have F := fput_says h
    have h2 := (valid_facts F.val).1.2
    have h3 := movF_len T key (endF T key)
    have h4 := F.elt
    unfold fputL
    omega
  · simp

/-- What l6Put answers. -/
def PutRes (T : Tab) (key : Int) (w : World) (e : Ending) (w' : World) : Prop :=
  ∃ a1 c1 a2 c2, e = .returned (.tuple #[.agg #[.int .i64 T.t, .int .i64 T.p, .slice a1 T.zs.length c1], .slice a2 (fputL T key).length c2]) ∧ OwnInts w' w.heap.size a1 (fputZ T key) ∧ OwnInts w' w.heap.size a2 (fputL T key) ∧ Below w.heap.size w w'

set_option maxHeartbeats 4000000 in
set_option maxRecDepth 100000 in
theorem l6Put_any (T : Tab) (a : Option Addr) (c : Nat) (key : Int) (w : World) (F : FputSays T key) (h1 : IntsAt w a T.zs) :
    Calls Tryz.prog 28 #[tabV T a c, .int .i64 key] w (PutRes T key w) := by
  obtain ⟨i0, hi, hz0, hz1, hz2⟩ := info_parts Tryz.info3
  have HI := Lib.hid hi; have HZ0 := Lib.hid hz0; have HZ1 := Lib.hid hz1; have HZ2 := Lib.hid hz2
  clear hi hz0 hz1 hz2
  have hv := F.val
  have hn := (valid_facts hv).1
  have hh := homeN_lt hv key
  have hhe := homeN_eq hv key
  have HCH0 := Lib.hid fun (a : Option Addr) (c : Nat) W => l1Home_any T a c key W hv F.key0.1 F.key0.2
  rw [← hhe] at HCH0
  have hel := F.elt
  have HFF := Lib.hid F
  clear hhe F
  have S0 := (((St.start w).read h1).alloc #[.int .i64 T.t, .int .i64 T.p, .slice a T.zs.length c] 25).alloc #[.int .i64 0, .int .i64 0, .slice none 0 0] 25
  rw [World.size_alloc] at S0
  go_enter Tryz.func28, Tryz.ntmps28
  go_wp2_with fail
  refine (l1Copy_any T a c _ hn.1 (by omega) (by exact S0.reads 2 rfl)).mono ?_
  rintro e w1 ⟨g, c', rfl, ho, hb⟩
  have hg := ho.1 _ rfl
  simp only [World.size_alloc] at hg
  have S1 := ((S0.below hb).add (It.own g (g + 1) (some ⟨g, 0, none⟩) T.zs) (by show g + 1 ≤ w1.heap.size; omega) ⟨⟨fun p hp => by cases hp; exact ⟨Nat.le_refl _, hg.2⟩, ho.2⟩, fun p hp => by cases hp; exact Nat.lt_succ_self _⟩).turn (l' := [It.own g (g + 1) (some ⟨g, 0, none⟩) T.zs, It.box (w.heap.size + 1) #[.int .i64 0, .int .i64 0, .slice none 0 0] 25]) fun i hi => by
    simp only [List.mem_cons, List.not_mem_nil, or_false] at hi
    rcases hi with rfl | rfl <;> simp
  clear S0 hb ho
  have hrs := row_start (w1.alloc (.cells #[.int .i64 T.t, .int .i64 T.p, .slice (some ⟨g, 0, none⟩) T.zs.length c'] 25))
  have S2 := (S1.alloc #[.int .i64 T.t, .int .i64 T.p, .slice (some ⟨g, 0, none⟩) T.zs.length c'] 25)
  have S3 := (S2.below ((Below.refl _ _).alloc (Nat.le_refl _) (.cells #[] 3))).add (It.row (w1.heap.size + 1) (w1.heap.size + 1 + 1) (.slice (some ⟨w1.heap.size + 1, 0, none⟩) 0 0) []) (by simp [It.row]) ⟨by simpa using hrs, fun k e => by cases e; simp⟩
  clear S1 S2 hrs
  obtain ⟨x0, x1, x2, x3, x4, x5, xz⟩ := facts3 (S3.cells 1 rfl)
  go_wp2_with fail
  clear x0 x1 x2 x3 x4 x5 xz
  refine (HCH0.out _ _ _).mono ?_
  rintro e w4 ⟨rfl, hb⟩
  have S4 := S3.below hb
  clear S3 hb
  have h0 : stepS T (homeN T key) 0 = homeN T key := Nat.mod_eq_of_lt hh
  go_wp2_with fail
  go_loopw [1, 7, 9, 10] (fun ky v s aw wr => ∃ (d : Nat) (hi' : Nat), d ≤ endF T key ∧ ky = .int .i64 (cm T key d).1 ∧ s = .int .i64 (stepS T (homeN T key) d : Nat) ∧ aw = .int .i64 ((cm T key d).2 : Nat) ∧
      St w wr [It.row (w1.heap.size + 1) hi' v (movF T key d), It.box w1.heap.size #[.int .i64 T.t, .int .i64 T.p, .slice (some ⟨g, 0, none⟩) T.zs.length c'] 25, It.own g (g + 1) (some ⟨g, 0, none⟩) (outF T key d), It.box (w.heap.size + 1) #[.int .i64 0, .int .i64 0, .slice none 0 0] 25])
    (fun _ _ s _ _ => endF T key - dst T.zs.length (homeN T key) (intOf s).toNat)
  case atStart => exact ⟨0, _, Nat.zero_le _, rfl, by rw [h0], rfl, S4⟩
  case round =>
    obtain ⟨d, hi', hd, rfl, rfl, rfl, Sr⟩ := hrel
    clear S4 h0
    have hst := stepS_lt (T := T) hn.1 (homeN T key) d
    have hdd : ∀ m, m < T.zs.length → dst T.zs.length (homeN T key) (stepS T (homeN T key) m) = m := fun m hm => by rw [fwd_step hh (by omega)]; exact dst_fwd hh hm
    have HD0 := Lib.hid (hdd d (by omega))
    have HNX := Lib.hid (next_step (T := T) (h := homeN T key) (d := d))
    have hol := outF_len T key d
    have hat := outF_at (key := key) hv d d (Nat.le_refl _) (by omega)
    have O := HFF.out.way d hd
    have hov := way_valid hv O
    have hoL : (tab T (outF T key d)).zs.length = T.zs.length := hol
    have hn1 : ((T.zs.length : Int) == 0) = false := beq_eq_false_iff_ne.2 (by omega)
    obtain ⟨q, f⟩ := rowOwn_at (Sr.owns 2 rfl) (i := stepS T (homeN T key) d) (by rw [hol]; exact hst)
    rw [hat] at q
    obtain ⟨x0, x1, x2, x3, x4, x5, xz⟩ := facts3 (Sr.cells 1 rfl)
    have HOL := Lib.hid hol
    by_cases hlt : d < endF T key
    · have hne := endF_before (T := T) (key := key) hlt
      obtain ⟨y0, y9⟩ := plain_key HFF.out.plain hst hne
      have HD1 := Lib.hid (hdd (d + 1) (by omega))
      have HAH : Hid (∀ W, IntsAt W (some ⟨g, 0, none⟩) (outF T key d) → Calls Tryz.prog 55 #[.agg #[.int .i64 T.t, .int .i64 T.p, .slice (some ⟨g, 0, none⟩) T.zs.length c'], .int .i64 (stepS T (homeN T key) d : Nat), .int .i64 (cm T key d).1, .int .i64 ((cm T key d).2 : Nat)] W fun e W' => e = .returned (.bool (aheadB T (stepS T (homeN T key) d) (cm T key d).1 (cm T key d).2)) ∧ Below W.heap.size W W') := Lib.hid fun W hi => by
        have h := l6Ahead_any (tab T (outF T key d)) (some ⟨g, 0, none⟩) c' (stepS T (homeN T key) d) (cm T key d).1 (cm T key d).2 W hov (by rw [hoL]; exact hst) (by show 0 ≤ nth (outF T key d) _; rw [hat]; exact y0) hi
        rw [tabV_tab hol, ahead_same hv hov hol hst hat y0] at h
        exact h
      have HCM := Lib.hid (show cm T key (d + 1) = if aheadB T (stepS T (homeN T key) d) (cm T key d).1 (cm T key d).2 then ((cm T key d).1, (cm T key d).2 + 1) else (nth T.zs (stepS T (homeN T key) d), awN T T.zs (stepS T (homeN T key) d) + 1) from rfl)
      have HOF := Lib.hid (show outF T key (d + 1) = if aheadB T (stepS T (homeN T key) d) (cm T key d).1 (cm T key d).2 then outF T key d else (outF T key d).set (stepS T (homeN T key) d) (cm T key d).1 from rfl)
      have HMF := Lib.hid (show movF T key (d + 1) = if aheadB T (stepS T (homeN T key) d) (cm T key d).1 (cm T key d).2 then movF T key d else movF T key d ++ [nth T.zs (stepS T (homeN T key) d)] from rfl)
      have haw16 : (cm T key d).2 ≤ 32 := by have := cm_away (key := key) hv d; omega
      have hml := movF_len T key d
      have hxm := homeN_lt hv (nth T.zs (stepS T (homeN T key) d))
      have hxe := homeN_eq hv (nth T.zs (stepS T (homeN T key) d))
      have HCX : Hid (∀ W, Calls Tryz.prog 53 #[.agg #[.int .i64 T.t, .int .i64 T.p, .slice (some ⟨g, 0, none⟩) T.zs.length c'], .int .i64 (nth T.zs (stepS T (homeN T key) d))] W fun e W' => e = .returned (.int .i64 (homeN T (nth T.zs (stepS T (homeN T key) d)) : Nat)) ∧ Below W.heap.size W W') := Lib.hid fun W => by
        have h := l1Home_any T (some ⟨g, 0, none⟩) c' (nth T.zs (stepS T (homeN T key) d)) W hv y0 y9
        rw [← hxe] at h
        exact h
      have HCA : Hid (∀ W, Calls Tryz.prog 54 #[.agg #[.int .i64 T.t, .int .i64 T.p, .slice (some ⟨g, 0, none⟩) T.zs.length c'], .int .i64 (homeN T (nth T.zs (stepS T (homeN T key) d)) : Nat), .int .i64 (stepS T (homeN T key) d : Nat)] W fun e W' => e = .returned (.int .i64 (awN T T.zs (stepS T (homeN T key) d) : Nat)) ∧ Below W.heap.size W W') := Lib.hid fun W => by
        have h := l1Away_any T (some ⟨g, 0, none⟩) c' (homeN T (nth T.zs (stepS T (homeN T key) d)) : Nat) (stepS T (homeN T key) d : Nat) W hn.1 hn.2 (by omega) (by omega) (by omega) (by omega)
        rw [dst_int hxm hst] at h
        exact h
      have haw2 : awN T T.zs (stepS T (homeN T key) d) ≤ 16 := by have := dst_lt hxm hst; unfold awN; omega
      have hckk := O.k0
      have hcq : nth (outF T key d) (stepS T (homeN T key) d) = nth T.zs (stepS T (homeN T key) d) := hat
      clear O hov hat hdd hoL hxe hol
      generalize aheadB T (stepS T (homeN T key) d) (cm T key d).1 (cm T key d).2 = ah at HAH HCM HOF HMF
      generalize awN T T.zs (stepS T (homeN T key) d) = ax at HCM HCA haw2
      generalize homeN T (nth T.zs (stepS T (homeN T key) d)) = hxn at HCX HCA hxm
      generalize nth T.zs (stepS T (homeN T key) d) = x at q hne y0 y9 HCM HMF HCX hcq
      generalize stepS T (homeN T key) d = s at q f HAH HCM HOF HMF HCA HNX HD0 hst hcq ⊢
      generalize (cm T key d).1 = ck at HAH HCM HOF hckk ⊢
      generalize (cm T key d).2 = ca at HAH HCM haw16 ⊢
      have s0 : (0 : Int) ≤ (s : Int) := by omega
      have s1 : (s : Int) < (T.zs.length : Int) := by omega
      have hxb : (x == -1) = false := beq_eq_false_iff_ne.2 hne
      cases ah
      · rw [if_neg (by simp)] at HCM HOF HMF
        go_wp2_with fail
        clear x0 x1 x2 x3 x4 x5 xz q f
        refine (HAH.out _ (by exact Sr.ints 2 rfl)).mono ?_
        rintro e w5 ⟨rfl, hb⟩
        have S5 := Sr.below hb
        clear Sr hb
        obtain ⟨x0, x1, x2, x3, x4, x5, xz⟩ := facts3 (S5.cells 1 rfl)
        obtain ⟨q, f⟩ := rowOwn_at (S5.owns 2 rfl) (i := s) (by rw [HOL.out]; exact hst)
        rw [hcq] at q
        have hown := S5.rows 0 rfl
        have FR := fun v => (show Far (It.row (w1.heap.size + 1) hi' v (movF T key d)) [It.box w1.heap.size #[.int .i64 T.t, .int .i64 T.p, .slice (some ⟨g, 0, none⟩) T.zs.length c'] 25, It.own g (g + 1) (some ⟨g, 0, none⟩) (outF T key d), It.box (w.heap.size + 1) #[.int .i64 0, .int .i64 0, .slice none 0 0] 25] from by simp [Far, It.box, It.own, It.row]; omega)
        have z5 : w1.heap.size + 1 ≤ w5.heap.size := S5.sz 1 rfl
        go_wp2_with (at_builtin; refine wpList_append_own _ rfl _ _ 23 rfl (w1.heap.size + 1) 3 i0 (.int .i64 0) 1 8 Tryz.underlying23 HI.out HZ0.out HZ1.out HZ2.out rfl (by decide) _ _ _ rfl (hown.alloc _) ⟨w5.heap.size, 0, none⟩ 1 1 [.int .i64 x] rfl rfl (cell_one_new _ _ _) (by simp [Value.oneCell']) (by unfold maxLen; omega) (by omega) (by simp; omega) ?_; intro v' w6 hown6 hgrow6 _; obtain ⟨g', cap', rfl⟩ := ownsRow_more hown6; have S6 := S5.append (x := x) (FR _) (by omega) _ hown6 hgrow6; clear hown6 hgrow6; obtain ⟨x0, x1, x2, x3, x4, x5, xz⟩ := facts3 (S6.cells 1 rfl))
        have SD := S6.drew
        go_region_held3 (fun w' => w'.cell? ⟨w1.heap.size, 0, none⟩ = some (.int .i64 T.t) ∧ w'.cell? ⟨w1.heap.size, 1, none⟩ = some (.int .i64 T.p) ∧ w'.cell? ⟨w1.heap.size, 2, none⟩ = some (.slice (some ⟨g, 0, none⟩) T.zs.length c'))
          (first
            | exact ⟨x0, x1, x2⟩
            | exact SD.three 1 rfl)
          (first
            | (go_at_call 53; refine (HCX.out _).mono ?_; rintro e w7 ⟨rfl, hb⟩; replace SD := SD.below hb; clear hb)
            | (go_at_call 54; refine (HCA.out _).mono ?_; rintro e w7 ⟨rfl, hb⟩; replace SD := SD.below hb; clear hb))
        clear S5 S6 x0 x1 x2 x3 x4 x5 xz q f hown
        obtain ⟨x0, x1, x2, x3, x4, x5, xz⟩ := facts3 (SD.cells 1 rfl)
        obtain ⟨q, f⟩ := rowOwn_at (SD.owns 2 rfl) (i := s) (by rw [HOL.out]; exact hst)
        have SE := SD.storeRow 2 s (by rw [HOL.out]; exact hst) rfl (by simp [Far, It.box, It.own, It.row] <;> omega) (by omega) ck
        clear SD
        go_wp2
        go_roundw
        case rel => exact ⟨d + 1, _, by omega, by rw [HCM.out], by rw [HNX.out], by rw [HCM.out]; go_num, by rw [HMF.out, HOF.out]; exact SE⟩
        case measure =>
          rw [HNX.out]
          simp only [intOf, Int.toNat_natCast]
          rw [HD1.out, HD0.out]; omega
      · rw [if_pos rfl] at HCM HOF HMF
        go_wp2_with fail
        clear x0 x1 x2 x3 x4 x5 xz q f
        refine (HAH.out _ (by exact Sr.ints 2 rfl)).mono ?_
        rintro e w5 ⟨rfl, hb⟩
        have S5 := Sr.below hb
        clear Sr hb
        obtain ⟨x0, x1, x2, x3, x4, x5, xz⟩ := facts3 (S5.cells 1 rfl)
        go_wp2
        go_roundw
        case rel => exact ⟨d + 1, hi', by omega, by rw [HCM.out], by rw [HNX.out], by rw [HCM.out]; go_num, by rw [HMF.out, HOF.out]; exact S5⟩
        case measure =>
          rw [HNX.out]
          simp only [intOf, Int.toNat_natCast]
          rw [HD1.out, HD0.out]; omega
    · obtain rfl : d = endF T key := by omega
      rw [HFF.out.eat] at q
      have s0 : (0 : Int) ≤ (stepS T (homeN T key) (endF T key) : Int) := by omega
      have s1 : (stepS T (homeN T key) (endF T key) : Int) < (T.zs.length : Int) := by omega
      obtain ⟨y0, y1, y2, y3, y4, y5, yz⟩ := facts3 (Sr.cells 3 rfl)
      obtain ⟨a5, c5, rfl⟩ := ownsRow_slice (Sr.rows 0 rfl)
      have HZ := Lib.hid (show fputZ T key = (outF T key (endF T key)).set (stepS T (homeN T key) (endF T key)) (cm T key (endF T key)).1 from rfl)
      have SE := Sr.storeRow 2 (stepS T (homeN T key) (endF T key)) (by rw [HOL.out]; exact hst) rfl (by simp [Far, It.box, It.own, It.row] <;> omega) (by omega) (cm T key (endF T key)).1
      have HML := Lib.hid (show fputL T key = movF T key (endF T key) from rfl)
      clear O hov hat hdd hoL
      generalize stepS T (homeN T key) (endF T key) = s at q f s0 s1 hst HNX HD0 HZ SE ⊢
      generalize (cm T key (endF T key)).1 = ck at HZ SE ⊢
      generalize movF T key (endF T key) = mv at HML SE Sr ⊢
      obtain ⟨v0, v1, v2, v3, v4, v5, vz⟩ := facts3 (SE.cells 1 rfl)
      obtain ⟨u0, u1, u2, u3, u4, u5, uz⟩ := facts3 (SE.cells 3 rfl)
      clear Sr y0 y1 y2 y3 y4 y5 yz
      have S7 := (SE.turn (l' := [It.row (w1.heap.size + 1) hi' (.slice a5 mv.length c5) mv, It.own g (g + 1) (some ⟨g, 0, none⟩) ((outF T key (endF T key)).set s ck)]) fun i hi => by
        simp only [List.mem_cons, List.not_mem_nil, or_false] at hi
        rcases hi with rfl | rfl <;> simp).set3Far (b := w.heap.size + 1) (by simp [Far, It.box, It.own, It.row] <;> omega) (by omega) (.int .i64 T.t) (.int .i64 T.p) (.slice (some ⟨g, 0, none⟩) T.zs.length c')
      go_wp2
      refine bodyPost_ret (v := .tuple #[.agg #[.int .i64 T.t, .int .i64 T.p, .slice (some ⟨g, 0, none⟩) T.zs.length c'], .slice a5 mv.length c5]) (by simp [results, Tryz.results28, go_sem, u0, u1, u2, u3, u4, u5]) rfl ?_
      unfold PutRes
      rw [HML.out, HZ.out]
      exact ⟨_, c', a5, c5, rfl, (S7.owns 1 rfl).mono (by omega), (rowInts (S7.rows 0 rfl)).mono (by omega), S7.old⟩

end Go.Proofs.YtkdkdmjhhgllgaaGreatDoor
end

section
namespace Go.Proofs.YtkdkdmjhhgllgaaGreatDoor
open Go.RowKit

set_option maxHeartbeats 2000000 in
theorem l6Asked_any (T : Tab) (a : Option Addr) (c : Nat) (key : Int) (w : World) (hx : T.zs.length ≤ 9223372036854775807) (h1 : IntsAt w a T.zs) :
    Calls Tryz.prog 27 #[tabV T a c, .int .i64 key] w fun e w' => e = .returned (.bool (fputOk T key)) ∧ Below w.heap.size w w' := by
  have S0 := tabBox c 25 h1
  have HC := Lib.hid fun (W : World) (h : IntsAt W a T.zs) => specCountSlots_any T a c W hx h
  have HF := Lib.hid fun (W : World) (h : IntsAt W a T.zs) => specIsFair_any T a c W hx h
  have HE : Hid (fputOk T key = (fairB T && decide (2 ≤ countF T) && inB key 0 99 && decide (findI T key < 0))) := Lib.hid rfl
  have HV : Hid (fairB T = true → validB T = true) := Lib.hid fun h => (plain_parts (fair_parts h).1).2.1
  generalize countF T = cf at HC HE
  go_enter Tryz.func27, Tryz.ntmps27
  go_wp2_with fail
  refine (HC.out _ (by exact S0.reads 1 rfl)).mono ?_
  rintro e w1 ⟨rfl, hb⟩
  have S1 := S0.below hb
  clear S0 hb
  obtain ⟨x0, x1, x2, x3, x4, x5, xz⟩ := facts3 (S1.cells 0 rfl)
  go_wp2_with fail
  clear x0 x1 x2 x3 x4 x5 xz
  refine (HF.out _ (by exact S1.reads 1 rfl)).mono ?_
  cases hf : fairB T
  · rintro e w2 ⟨rfl, hb⟩
    have S2 := S1.below hb
    have E : Hid (fputOk T key = false) := Lib.hid (by rw [HE.out, hf]; rfl)
    go_wp2
    go_ret
    exact ⟨by rw [E.out]; rfl, S2.old⟩
  · rintro e w2 ⟨rfl, hb⟩
    have S2 := S1.below hb
    clear S1 hb
    by_cases h2 : 2 ≤ cf
    · have d2 : decide (2 ≤ cf) = true := decide_eq_true h2
      go_wp2_with fail
      refine (l1Key_any _ _).mono ?_
      rintro e w3 ⟨rfl, rfl⟩
      cases hk : inB key 0 99
      · have E : Hid (fputOk T key = false) := Lib.hid (by rw [HE.out, hk]; simp)
        go_wp2
        go_ret
        exact ⟨by rw [E.out]; rfl, S2.old⟩
      · obtain ⟨k0, k9⟩ := inB_iff.1 hk
        have HFD := Lib.hid fun (W : World) (h : IntsAt W a T.zs) => l2Find_any T a c key W (HV.out hf) k0 k9 h
        have E : Hid (fputOk T key = decide (findI T key < 0)) := Lib.hid (by rw [HE.out, hf, d2, hk]; rfl)
        generalize findI T key = fi at HFD E
        obtain ⟨x0, x1, x2, x3, x4, x5, xz⟩ := facts3 (S2.cells 0 rfl)
        go_wp2_with fail
        clear x0 x1 x2 x3 x4 x5 xz
        refine (HFD.out _ (by exact S2.reads 1 rfl)).mono ?_
        rintro e w4 ⟨rfl, hb⟩
        have S4 := S2.below hb
        go_wp2
        go_ret
        exact ⟨by rw [E.out]; rfl, S4.old⟩
    · have d2 : decide (2 ≤ cf) = false := decide_eq_false h2
      have E : Hid (fputOk T key = false) := Lib.hid (by rw [HE.out, d2]; simp)
      go_wp2
      go_ret
      exact ⟨by rw [E.out]; rfl, S2.old⟩

theorem fputT_no {T : Tab} {key : Int} (h : fputOk T key = false) : fputT T key = ⟨0, 0, []⟩ ∧ fswaps T key = [] := by simp [fputT, fswaps, h]
theorem fputT_yes {T : Tab} {key : Int} (h : fputOk T key = true) : fputT T key = tab T (fputZ T key) ∧ fswaps T key = fputL T key := by simp [fputT, fswaps, h]

set_option maxHeartbeats 2000000 in
theorem specFairPut_any (T : Tab) (a : Option Addr) (c : Nat) (key : Int) (w : World) (hx : T.zs.length ≤ 9223372036854775807) (h1 : IntsAt w a T.zs) :
    Calls Tryz.prog 78 #[tabV T a c, .int .i64 key] w (TabRes (fputT T key) (fputOk T key) w) := by
  have S0 := (((St.start w).read h1).alloc #[.int .i64 T.t, .int .i64 T.p, .slice a T.zs.length c] 25).alloc #[.int .i64 0, .int .i64 0, .slice none 0 0] 25
  rw [World.size_alloc] at S0
  have HA := Lib.hid fun (W : World) (h : IntsAt W a T.zs) => l6Asked_any T a c key W hx h
  cases ok : fputOk T key
  · have E := Lib.hid (fputT_no ok).1
    rw [ok] at HA
    go_enter Tryz.func78, Tryz.ntmps78
    go_wp2_with fail
    refine (HA.out _ (by exact S0.reads 2 rfl)).mono ?_
    rintro e w1 ⟨rfl, hb⟩
    have S1 := S0.below hb
    clear S0 hb
    obtain ⟨x0, x1, x2, x3, x4, x5, xz⟩ := facts3 (S1.cells 0 rfl)
    go_wp2
    refine bodyPost_ret (v := .tuple #[tbl 0 0 none 0 0, .bool false]) (by simp [results, Tryz.results78, go_sem, x0, x1, x2, x3, x4, x5]) rfl ?_
    rw [E.out]
    exact ⟨none, 0, rfl, OwnInts.nil _ _, set3 S1.old (by omega) _ _ _⟩
  · have F := fput_says ok
    have E := Lib.hid (fputT_yes ok).1
    have HP := Lib.hid fun (W : World) (h : IntsAt W a T.zs) => l6Put_any T a c key W F h
    have HZL : Hid ((fputZ T key).length = T.zs.length) := Lib.hid (fputZ_len T key)
    rw [ok] at HA
    go_enter Tryz.func78, Tryz.ntmps78
    go_wp2_with fail
    refine (HA.out _ (by exact S0.reads 2 rfl)).mono ?_
    rintro e w1 ⟨rfl, hb⟩
    have S1 := S0.below hb
    have z1 : w.heap.size + 1 < w1.heap.size := S1.sz 0 rfl
    clear S0 hb
    obtain ⟨x0, x1, x2, x3, x4, x5, xz⟩ := facts3 (S1.cells 1 rfl)
    go_wp2_with fail
    refine (HP.out _ (by exact S1.reads 2 rfl)).mono ?_
    rintro e w3 ⟨a3, c3, a4, c4, rfl, ho, ho2, hb⟩
    have S3 := ((S1.below hb).own ho).alloc #[.int .i64 T.t, .int .i64 T.p, .slice a3 T.zs.length c3] 25
    have z3 := hb.size
    clear S1 hb ho ho2 x0 x1 x2 x3 x4 x5 xz
    obtain ⟨x0, x1, x2, x3, x4, x5, xz⟩ := facts3 (S3.cells 2 rfl)
    obtain ⟨y0, y1, y2, y3, y4, y5, yz⟩ := facts3 (S3.cells 0 rfl)
    go_wp2
    have S4 := (S3.turn (l' := [It.own w1.heap.size w3.heap.size a3 (fputZ T key)]) fun i hi => by simp at hi; subst hi; simp).set3Far (b := w.heap.size + 1) ⟨.inr (by show w.heap.size + 1 + 1 ≤ w1.heap.size; omega), trivial⟩ (by omega) (.int .i64 T.t) (.int .i64 T.p) (.slice a3 T.zs.length c3)
    refine bodyPost_ret (v := .tuple #[tabV (tab T (fputZ T key)) a3 c3, .bool true]) (by simp [results, Tryz.results78, go_sem, tab, HZL.out, x0, x1, x2, x3, x4, x5, y0, y1, y2]) rfl ?_
    rw [E.out]
    exact ⟨a3, c3, rfl, (S4.owns 0 rfl).mono (by omega), S4.old⟩

theorem fallT_len (T : Tab) (ks : List Int) : (fallT T ks).zs.length ≤ 16 := by
  unfold fallT
  split
  · rename_i h
    have h' := h
    simp only [fallOk, Bool.and_eq_true] at h
    have hv := (plain_parts (fair_parts h.1.1).1).2.1
    have h2 := (valid_facts hv).1.2
    cases hz : fallTo T ks ks.length with
    | none => rw [hz] at h; simp at h
    | some z =>
      have := fallTo_len hz
      show z.length ≤ 16
      omega
  · simp
theorem fallRes_no {T : Tab} {ks : List Int} {w w' : World} (h : fallOk T ks = false) (hb : Below w.heap.size w w') : TabRes (fallT T ks) (fallOk T ks) w (.returned (.tuple #[tbl 0 0 none 0 0, .bool false])) w' := by
  have e : fallT T ks = ⟨0, 0, []⟩ := by simp [fallT, h]
  rw [h, e]
  exact ⟨none, 0, rfl, OwnInts.nil _ _, hb⟩

set_option maxHeartbeats 4000000 in
theorem specFairAll_any (T : Tab) (a : Option Addr) (c : Nat) (ks : List Int) (ak : Option Addr) (ck : Nat) (w : World) (hx : T.zs.length ≤ 9223372036854775807) (hl : ks.length ≤ 1048576) (h1 : IntsAt w a T.zs) (h2 : IntsAt w ak ks) :
    Calls Tryz.prog 7 #[tabV T a c, .slice ak ks.length ck] w (TabRes (fallT T ks) (fallOk T ks) w) := by
  have S0 := ((((St.start w).read h2).read h1).alloc #[.int .i64 T.t, .int .i64 T.p, .slice a T.zs.length c] 25).alloc #[.int .i64 0, .int .i64 0, .slice none 0 0] 25
  rw [World.size_alloc] at S0
  cases hs : fairB T
  · have E : Hid (fallOk T ks = false) := Lib.hid (by simp [fallOk, hs])
    go_enter Tryz.func7, Tryz.ntmps7
    go_wp2_with fail
    refine (specIsFair_any T a c _ hx (by exact S0.reads 2 rfl)).mono ?_
    rw [hs]
    rintro e w2 ⟨rfl, hb⟩
    have S2 := S0.below hb
    clear S0 hb
    obtain ⟨x0, x1, x2, x3, x4, x5, xz⟩ := facts3 (S2.cells 0 rfl)
    go_wp2
    refine bodyPost_ret (v := .tuple #[tbl 0 0 none 0 0, .bool false]) (by simp [results, Tryz.results7, go_sem, x0, x1, x2, x3, x4, x5]) rfl (fallRes_no E.out ?_)
    exact set3 S2.old (by omega) _ _ _
  · have hv := (plain_parts (fair_parts hs).1).2.1
    have hn := (valid_facts hv).1
    cases hk : keysB ks
    · have E : Hid (fallOk T ks = false) := Lib.hid (by simp [fallOk, hk])
      go_enter Tryz.func7, Tryz.ntmps7
      go_wp2_with fail
      refine (specIsFair_any T a c _ hx (by exact S0.reads 2 rfl)).mono ?_
      rw [hs]
      rintro e w2 ⟨rfl, hb⟩
      have S2 := S0.below hb
      clear S0 hb
      go_wp2_with fail
      refine (l3Keys_any ks ak ck _ (by omega) (by exact S2.reads 3 rfl)).mono ?_
      rw [hk]
      rintro e w3 ⟨rfl, rfl⟩
      obtain ⟨x0, x1, x2, x3, x4, x5, xz⟩ := facts3 (S2.cells 0 rfl)
      go_wp2
      refine bodyPost_ret (v := .tuple #[tbl 0 0 none 0 0, .bool false]) (by simp [results, Tryz.results7, go_sem, x0, x1, x2, x3, x4, x5]) rfl (fallRes_no E.out ?_)
      exact set3 S2.old (by omega) _ _ _
    · have KP : Hid (∀ j, j < ks.length → 0 ≤ nth ks j ∧ nth ks j ≤ 99) := Lib.hid fun j hj => keysB_nth hk hj
      have HNO : Hid (∀ j, j ≤ ks.length → fallTo T ks j = none → fallOk T ks = false) := Lib.hid fun j hj h => fall_not hj h
      have HYES : Hid (∀ zs, fallTo T ks ks.length = some zs → fallOk T ks = true ∧ fallT T ks = tab T zs) := Lib.hid fun zs h => by
        have hok : fallOk T ks = true := by simp [fallOk, hs, hk, h]
        exact ⟨hok, by unfold fallT; rw [if_pos hok, h]; rfl⟩
      have HLV : Hid (∀ j zs, fallTo T ks j = some zs → validB (tab T zs) = true ∧ zs.length = T.zs.length) := Lib.hid fun j zs h => ⟨fallTo_valid hv h, fallTo_len h⟩
      have HST : Hid (∀ j zs, fallTo T ks j = some zs → fallTo T ks (j + 1) = stepF T zs (nth ks j)) := Lib.hid fun j zs h => by
        simp only [fallTo, h]; rfl
      go_enter Tryz.func7, Tryz.ntmps7
      go_wp2_with fail
      refine (specIsFair_any T a c _ hx (by exact S0.reads 2 rfl)).mono ?_
      rw [hs]
      rintro e w2 ⟨rfl, hb⟩
      have S2 := S0.below hb
      clear S0 hb
      have z2 : w.heap.size + 1 < w2.heap.size := S2.sz 0 rfl
      go_wp2_with fail
      refine (l3Keys_any ks ak ck _ (by omega) (by exact S2.reads 3 rfl)).mono ?_
      rw [hk]
      rintro e w3 ⟨rfl, rfl⟩
      obtain ⟨x0, x1, x2, x3, x4, x5, xz⟩ := facts3 (S2.cells 1 rfl)
      go_wp2_with fail
      refine (l1Copy_any T a c _ hn.1 (by omega) (by exact S2.reads 2 rfl)).mono ?_
      rintro e w4 ⟨g, c', rfl, ho, hb⟩
      have z4 := hb.size
      have hg := ho.1 _ rfl
      simp only at hg
      have S4 := ((S2.below hb).own ho).alloc #[.int .i64 T.t, .int .i64 T.p, .slice (some ⟨g, 0, none⟩) T.zs.length c'] 25
      have S5 := S4.turn (l' := [It.box w4.heap.size #[.int .i64 T.t, .int .i64 T.p, .slice (some ⟨g, 0, none⟩) T.zs.length c'] 25, It.own w3.heap.size w4.heap.size (some ⟨g, 0, none⟩) T.zs, It.box (w.heap.size + 1) #[.int .i64 0, .int .i64 0, .slice none 0 0] 25, It.read w.heap.size ak ks]) fun i hi => by
        simp only [List.mem_cons, List.not_mem_nil, or_false] at hi ⊢
        rcases hi with h | h | h | h
        · exact .inl h
        · exact .inr (.inl h)
        · exact .inr (.inr (.inl h))
        · exact .inr (.inr (.inr (.inr (.inr h))))
      clear S2 S4 hb ho x0 x1 x2 x3 x4 x5 xz
      go_wp2_with fail
      go_loopw [8, 22] (fun _ i wr => ∃ (k lo hi' : Nat) (aj : Option Addr) (cj : Nat) (zs : List Int), k ≤ ks.length ∧ i = .int .i64 k ∧ Hid (fallTo T ks k = some zs) ∧ w.heap.size + 1 + 1 ≤ lo ∧ (hi' ≤ w4.heap.size ∨ w4.heap.size + 1 ≤ lo) ∧ w4.heap.size + 1 ≤ wr.heap.size ∧ St w wr [It.box w4.heap.size #[.int .i64 T.t, .int .i64 T.p, .slice aj T.zs.length cj] 25, It.own lo hi' aj zs, It.box (w.heap.size + 1) #[.int .i64 0, .int .i64 0, .slice none 0 0] 25, It.read w.heap.size ak ks]) (fun _ i _ => ks.length - (intOf i).toNat)
      case atStart => exact ⟨0, _, _, _, _, _, Nat.zero_le _, rfl, Lib.hid rfl, by omega, .inl (Nat.le_refl _), by simp, S5⟩
      case round =>
        obtain ⟨k, lo, hi', aj, cj, zs, hkk, rfl, HFT, hlo, hfar, hzr, Sr⟩ := hrel
        clear S5
        obtain ⟨x0, x1, x2, x3, x4, x5, xz⟩ := facts3 (Sr.cells 0 rfl)
        obtain ⟨hvz, hlz⟩ := HLV.out k zs HFT.out
        by_cases hlt : k < ks.length
        · have k0 : (0 : Int) ≤ (k : Int) := by omega
          have k1 : (k : Int) < (ks.length : Int) := by omega
          obtain ⟨bk, ok, x, rfl, q, X⟩ := (Sr.reads 3 rfl).at hlt
          have hxb := KP.out k hlt
          have hS1 := HST.out k zs HFT.out
          rw [X.out] at hxb hS1
          have HF : Hid (∀ W, IntsAt W aj zs → Calls Tryz.prog 26 #[.agg #[.int .i64 T.t, .int .i64 T.p, .slice aj T.zs.length cj], .int .i64 x] W fun e w' => e = .returned (.int .i64 (findI (tab T zs) x)) ∧ Below W.heap.size W w') := Lib.hid fun W hi => (by
            have h := l2Find_any (tab T zs) aj cj x W hvz hxb.1 hxb.2 hi
            rw [tabV_tab hlz] at h
            exact h)
          have HA : Hid (∀ W, IntsAt W aj zs → Calls Tryz.prog 27 #[.agg #[.int .i64 T.t, .int .i64 T.p, .slice aj T.zs.length cj], .int .i64 x] W fun e w' => e = .returned (.bool (fputOk (tab T zs) x)) ∧ Below W.heap.size W w') := Lib.hid fun W hi => (by
            have h := l6Asked_any (tab T zs) aj cj x W (by show zs.length ≤ _; omega) hi
            rw [tabV_tab hlz] at h
            exact h)
          have HD : Hid (∀ W, IntsAt W aj zs → FputSays (tab T zs) x → Calls Tryz.prog 28 #[.agg #[.int .i64 T.t, .int .i64 T.p, .slice aj T.zs.length cj], .int .i64 x] W fun e w' => ∃ a1 c1 a2 n2 c2, e = .returned (.tuple #[.agg #[.int .i64 T.t, .int .i64 T.p, .slice a1 T.zs.length c1], .slice a2 n2 c2]) ∧ OwnInts w' W.heap.size a1 (fputZ (tab T zs) x) ∧ Below W.heap.size W w') := Lib.hid fun W hi hF => (by
            have h := l6Put_any (tab T zs) aj cj x W hF hi
            rw [tabV_tab hlz] at h
            refine h.mono ?_
            rintro e w' ⟨a1, c1, a2, c2, rfl, ho, _, hb⟩
            refine ⟨a1, c1, a2, (fputL (tab T zs) x).length, c2, ?_, ho, hb⟩
            show Ending.returned (.tuple #[.agg #[.int .i64 T.t, .int .i64 T.p, .slice a1 zs.length c1], _]) = _
            rw [hlz])
          have HS1 := Lib.hid hS1
          clear hS1
          by_cases hf : 0 ≤ findI (tab T zs) x
          · have HN : Hid (fallTo T ks (k + 1) = some zs) := Lib.hid (by rw [HS1.out]; unfold stepF; rw [if_pos hf])
            generalize findI (tab T zs) x = fi at HF hf
            have d1 : decide (0 ≤ fi) = true := decide_eq_true hf
            go_wp2_with fail
            clear x0 x1 x2 x3 x4 x5 xz q
            refine (HF.out _ (by exact Sr.ints 1 rfl)).mono ?_
            rintro e w6 ⟨rfl, hb⟩
            have S6 := Sr.below hb
            have z6 := hb.size
            clear Sr hb
            go_wp2
            go_roundw
            case rel => exact ⟨k + 1, lo, hi', aj, cj, zs, by omega, by go_num, HN, hlo, hfar, by omega, S6⟩
            case measure => simp [intOf]; omega
          · cases hok : fputOk (tab T zs) x
            · have HN : Hid (fallOk T ks = false) := Lib.hid (HNO.out (k + 1) hlt (by rw [HS1.out]; unfold stepF; rw [if_neg hf, hok]; rfl))
              rw [hok] at HA
              generalize findI (tab T zs) x = fi at HF hf
              have d1 : decide (0 ≤ fi) = false := decide_eq_false hf
              go_wp2_with fail
              clear x0 x1 x2 x3 x4 x5 xz q
              refine (HF.out _ (by exact Sr.ints 1 rfl)).mono ?_
              rintro e w6 ⟨rfl, hb⟩
              have S6 := Sr.below hb
              clear Sr hb
              obtain ⟨x0, x1, x2, x3, x4, x5, xz⟩ := facts3 (S6.cells 0 rfl)
              go_wp2_with fail
              clear x0 x1 x2 x3 x4 x5 xz
              refine (HA.out _ (by exact S6.ints 1 rfl)).mono ?_
              rintro e w7 ⟨rfl, hb⟩
              have S7 := S6.below hb
              clear S6 hb
              obtain ⟨x0, x1, x2, x3, x4, x5, xz⟩ := facts3 (S7.cells 2 rfl)
              go_wp2
              refine bodyPost_ret (v := .tuple #[tbl 0 0 none 0 0, .bool false]) (by simp [results, Tryz.results7, go_sem, x0, x1, x2, x3, x4, x5]) rfl (fallRes_no HN.out ?_)
              exact set3 S7.old (by omega) _ _ _
            · have HN : Hid (fallTo T ks (k + 1) = some (fputZ (tab T zs) x)) := Lib.hid (by rw [HS1.out]; unfold stepF; rw [if_neg hf, hok]; rfl)
              have HFS := Lib.hid (fput_says hok)
              rw [hok] at HA
              generalize findI (tab T zs) x = fi at HF hf
              have d1 : decide (0 ≤ fi) = false := decide_eq_false hf
              go_wp2_with fail
              clear x0 x1 x2 x3 x4 x5 xz q
              refine (HF.out _ (by exact Sr.ints 1 rfl)).mono ?_
              rintro e w6 ⟨rfl, hb⟩
              have S6 := Sr.below hb
              have z6 := hb.size
              clear Sr hb
              obtain ⟨x0, x1, x2, x3, x4, x5, xz⟩ := facts3 (S6.cells 0 rfl)
              go_wp2_with fail
              clear x0 x1 x2 x3 x4 x5 xz
              refine (HA.out _ (by exact S6.ints 1 rfl)).mono ?_
              rintro e w7 ⟨rfl, hb⟩
              have S7 := S6.below hb
              have z7 := hb.size
              clear S6 hb
              obtain ⟨x0, x1, x2, x3, x4, x5, xz⟩ := facts3 (S7.cells 0 rfl)
              go_wp2_with fail
              clear x0 x1 x2 x3 x4 x5 xz
              refine (HD.out _ (by exact S7.ints 1 rfl) HFS.out).mono ?_
              rintro e w8 ⟨a8, c8, a9, n9, c9, rfl, ho, hb⟩
              have S8 := (S7.below hb).own ho
              have z8 := hb.size
              clear S7 hb ho
              obtain ⟨x0, x1, x2, x3, x4, x5, xz⟩ := facts3 (S8.cells 1 rfl)
              generalize fputZ (tab T zs) x = zt at HN S8
              have S9 := (S8.turn (l' := [It.box w4.heap.size #[.int .i64 T.t, .int .i64 T.p, .slice aj T.zs.length cj] 25, It.own w7.heap.size w8.heap.size a8 zt, It.box (w.heap.size + 1) #[.int .i64 0, .int .i64 0, .slice none 0 0] 25, It.read w.heap.size (some ⟨bk, ok, none⟩) ks]) fun i hi => by
                simp only [List.mem_cons, List.not_mem_nil, or_false] at hi
                rcases hi with h | h | h | h <;> subst h <;> simp).set3Box 0 rfl (by simp [Far, It.box, It.own, It.read] <;> omega) (by omega) (.int .i64 T.t) (.int .i64 T.p) (.slice a8 T.zs.length c8)
              go_wp2
              go_roundw
              case rel => exact ⟨k + 1, w7.heap.size, w8.heap.size, a8, c8, zt, by omega, by go_num, HN, by omega, .inr (by omega), by simp [World.setCell]; omega, S9⟩
              case measure => simp [intOf]; omega
        · obtain rfl : k = ks.length := by omega
          obtain ⟨E1, E2⟩ := HYES.out zs HFT.out
          have E := Lib.hid (And.intro E1 E2)
          clear E1 E2
          obtain ⟨y0, y1, y2, y3, y4, y5, yz⟩ := facts3 (Sr.cells 2 rfl)
          have HLN := Lib.hid hlz
          have S7 := (Sr.turn (l' := [It.own lo hi' aj zs]) fun i hi => by simp at hi; subst hi; simp).set3Far (b := w.heap.size + 1) ⟨.inr (by show w.heap.size + 1 + 1 ≤ lo; omega), trivial⟩ (by omega) (.int .i64 T.t) (.int .i64 T.p) (.slice aj T.zs.length cj)
          clear hlz hvz
          go_wp2
          refine bodyPost_ret (v := .tuple #[.agg #[.int .i64 T.t, .int .i64 T.p, .slice aj T.zs.length cj], .bool true]) (by simp [results, Tryz.results7, go_sem, x0, x1, x2, y0, y1, y2, y3, y4, y5]) rfl ?_
          rw [E.out.1, E.out.2]
          refine ⟨aj, cj, ?_, (S7.owns 0 rfl).mono (by omega), S7.old⟩
          rw [← tabV_tab HLN.out]

end Go.Proofs.YtkdkdmjhhgllgaaGreatDoor
end

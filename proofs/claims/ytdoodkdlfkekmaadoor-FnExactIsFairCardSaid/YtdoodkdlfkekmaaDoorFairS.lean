/-
  Fair tables: IsFair of the model.
-/
import Derived.Test.YtdoodkdlfkekmaaDoorShelf
import Derived.Test.YtdoodkdlfkekmaaDoorMath
import Derived.Test.YtdoodkdlfkekmaaDoorShiftI
import Derived.Test.YtdoodkdlfkekmaaDoorShiftS
import Derived.Test.YtdoodkdlfkekmaaDoorCount
namespace Go.Proofs.YtdoodkdlfkekmaaDoor
open Go.RowKit

/-- A slot's key stands ahead of another one. -/
theorem ahead_if' {T : Tab} {s : Nat} {key : Int} {d : Nat} {aw : Int} (h : awayOf T s = aw) : aheadB T s key d = (decide ((d : Int) < aw) || (aw == (d : Int)) && decide (nth T.zs s < key)) := by
  unfold aheadB; rw [h]

set_option maxHeartbeats 2000000 in
theorem l6Ahead_any (T : Tab) (a : Option Addr) (c s : Nat) (key : Int) (d : Nat) (w : World) (hv : validB T = true) (hs : s < T.zs.length) (h0 : 0 ≤ nth T.zs s) (h1 : IntsAt w a T.zs) :
    Calls Tryd.prog 14 #[tabV T a c, .int .i64 s, .int .i64 key, .int .i64 d] w fun e w' => e = .returned (.bool (aheadB T s key d)) ∧ Below w.heap.size w w' := by
  obtain ⟨⟨l1, l2⟩, _⟩ := valid_facts hv
  have h9 := (valid_slot hv hs).2
  obtain ⟨b, o, x, rfl, q, X⟩ := h1.at hs
  have hX := X.out
  rw [hX] at h0 h9
  have hh := homeN_lt hv x
  have hhe := homeN_eq hv x
  have HA : Hid (aheadB T s key d = (decide ((d : Int) < (dst T.zs.length (homeN T x) s : Nat)) || ((dst T.zs.length (homeN T x) s : Nat) : Int) == (d : Int) && decide (x < key))) := Lib.hid (by
    have e := awN_of (T := T) (zs := T.zs) hv rfl hs (by rw [hX]; exact h0)
    have e : awayOf T s = (awN T T.zs s : Nat) := e
    rw [ahead_if' e, hX]
    unfold awN
    rw [hX])
  have HCH := Lib.hid fun W => l1Home_any T (some ⟨b, o, none⟩) c x W hv h0 h9
  rw [← hhe] at HCH
  have HCA : Hid (∀ W, Calls Tryd.prog 13 #[tabV T (some ⟨b, o, none⟩) c, .int .i64 (homeN T x : Nat), .int .i64 s] W fun e W' => e = .returned (.int .i64 (dst T.zs.length (homeN T x) s : Nat)) ∧ Below W.heap.size W W') := Lib.hid fun W => by
    have h := l1Away_any T (some ⟨b, o, none⟩) c (homeN T x : Nat) (s : Int) W l1 l2 (by omega) (by omega) (by omega) (by omega)
    rw [dst_int hh hs] at h
    exact h
  have S0 := tabBox c 27 h1
  have q' := (Below.refl w.heap.size w |>.alloc (Nat.le_refl _) (.cells #[.int .i64 T.t, .int .i64 T.p, .slice (some ⟨b, o, none⟩) T.zs.length c] 27)).cell (p := ⟨b, o + s, none⟩) (World.block_lt_of_cell? w _ q)
  rw [q] at q'
  obtain ⟨x0, x1, x2, x3, x4, x5, xz⟩ := facts3 (S0.cells 0 rfl)
  have s0 : (0 : Int) ≤ (s : Int) := by omega
  have s1 : (s : Int) < (T.zs.length : Int) := by omega
  generalize homeN T x = hm at HA HCH HCA
  generalize dst T.zs.length hm s = aw at HA HCA
  go_enter Tryd.func14, Tryd.ntmps14
  have SD := S0.drew
  go_wp2_with fail
  go_region_held3 (fun w' => w'.cell? ⟨w.heap.size, 0, none⟩ = some (.int .i64 T.t) ∧ w'.cell? ⟨w.heap.size, 1, none⟩ = some (.int .i64 T.p) ∧ w'.cell? ⟨w.heap.size, 2, none⟩ = some (.slice (some ⟨b, o, none⟩) T.zs.length c))
    (first
      | exact ⟨x0, x1, x2⟩
      | exact SD.three 0 rfl)
    (first
      | (go_at_call 12; refine (HCH.out _).mono ?_; rintro e w5 ⟨rfl, hb⟩; replace SD := SD.below hb; clear hb)
      | (go_at_call 13; refine (HCA.out _).mono ?_; rintro e w5 ⟨rfl, hb⟩; replace SD := SD.below hb; clear hb))
  clear x0 x1 x2 x3 x4 x5 xz q q'
  by_cases c1 : d < aw
  · have c2 : (d : Int) < (aw : Int) := by omega
    have HR : Hid (aheadB T s key d = true) := Lib.hid (by rw [HA.out, decide_eq_true c2]; rfl)
    go_wp2
    go_ret
    exact ⟨by rw [HR.out]; rfl, SD.old⟩
  · have c2 : ¬ (d : Int) < (aw : Int) := by omega
    by_cases c3 : aw = d
    · subst c3
      have HR : Hid (aheadB T s key aw = decide (x < key)) := Lib.hid (by rw [HA.out, decide_eq_false c2]; simp)
      go_wp2
      go_ret
      exact ⟨by rw [HR.out]; rfl, SD.old⟩
    · have c4 : ((aw : Int) == (d : Int)) = false := beq_eq_false_iff_ne.2 (by omega)
      have c5 : (aw == d) = false := beq_eq_false_iff_ne.2 c3
      have HR : Hid (aheadB T s key d = false) := Lib.hid (by rw [HA.out, decide_eq_false c2, c4]; rfl)
      go_wp2
      go_ret
      exact ⟨by rw [HR.out]; rfl, SD.old⟩

set_option maxRecDepth 100000 in
set_option maxHeartbeats 4000000 in
theorem specIsFair_any (T : Tab) (a : Option Addr) (c : Nat) (w : World) (hx : T.zs.length ≤ 9223372036854775807) (h1 : IntsAt w a T.zs) :
    Calls Tryd.prog 5 #[tabV T a c] w fun e w' => e = .returned (.bool (fairB T)) ∧ Below w.heap.size w w' := by
  have S0 := tabBox c 27 h1
  have HC := Lib.hid fun (W : World) (h : IntsAt W a T.zs) => specCountSlots_any T a c W hx h
  have HP := Lib.hid fun (W : World) (h : IntsAt W a T.zs) => l5Plain_any T a c W hx h
  cases hp : plainB T
  · have E : Hid (fairB T = false) := Lib.hid (by simp [fairB, hp])
    rw [hp] at HP
    generalize countF T = cf at HC
    go_enter Tryd.func5, Tryd.ntmps5
    go_wp2_with fail
    refine (HC.out _ (by exact S0.reads 1 rfl)).mono ?_
    rintro e w1 ⟨rfl, hb⟩
    have S1 := S0.below hb
    clear S0 hb
    obtain ⟨x0, x1, x2, x3, x4, x5, xz⟩ := facts3 (S1.cells 0 rfl)
    go_wp2_with fail
    refine (HP.out _ (by exact S1.reads 1 rfl)).mono ?_
    rintro e w2 ⟨rfl, hb⟩
    have S2 := S1.below hb
    go_wp2
    go_ret
    exact ⟨by rw [E.out]; rfl, S2.old⟩
  · obtain ⟨_, hv, ht⟩ := plain_parts hp
    obtain ⟨⟨l1, l2⟩, _⟩ := valid_facts hv
    rw [hp] at HP
    have HF : Hid (countF T = 0 ↔ -1 ∉ T.zs) := Lib.hid (by
      unfold countF cnt
      rw [if_pos hv, List.take_length]
      constructor
      · intro h hm
        have : 0 < T.zs.countP freeP := List.countP_pos_iff.2 ⟨-1, hm, rfl⟩
        omega
      · intro h
        have : T.zs.countP freeP = 0 := List.countP_eq_zero.2 fun z hz e => h (by
          have : z = -1 := by simpa [freeP] using e
          rw [← this]; exact hz)
        omega)
    by_cases hf : countF T = 0
    · have E : Hid (fairB T = false) := Lib.hid (by simp [fairB, HF.out.1 hf])
      rw [hf] at HC
      go_enter Tryd.func5, Tryd.ntmps5
      go_wp2_with fail
      refine (HC.out _ (by exact S0.reads 1 rfl)).mono ?_
      rintro e w1 ⟨rfl, hb⟩
      have S1 := S0.below hb
      clear S0 hb
      obtain ⟨x0, x1, x2, x3, x4, x5, xz⟩ := facts3 (S1.cells 0 rfl)
      go_wp2_with fail
      refine (HP.out _ (by exact S1.reads 1 rfl)).mono ?_
      rintro e w2 ⟨rfl, hb⟩
      have S2 := S1.below hb
      go_wp2
      go_ret
      exact ⟨by rw [E.out]; rfl, S2.old⟩
    · have hfm : -1 ∈ T.zs := Decidable.byContradiction fun h => hf (HF.out.2 h)
      have E : Hid (fairB T = fairTo T T.zs.length) := Lib.hid (by simp [fairB, hp, hfm])
      have hfb : (countF T == 0) = false := beq_eq_false_iff_ne.2 hf
      have HPL := Lib.hid hp
      clear HF hfm
      generalize countF T = cf at HC hf hfb
      go_enter Tryd.func5, Tryd.ntmps5
      go_wp2_with fail
      refine (HC.out _ (by exact S0.reads 1 rfl)).mono ?_
      rintro e w1 ⟨rfl, hb⟩
      have S1 := S0.below hb
      clear S0 hb
      obtain ⟨x0, x1, x2, x3, x4, x5, xz⟩ := facts3 (S1.cells 0 rfl)
      go_wp2_with fail
      refine (HP.out _ (by exact S1.reads 1 rfl)).mono ?_
      rintro e w2 ⟨rfl, hb⟩
      have S2 := S1.below hb
      clear S1 hb x0 x1 x2 x3 x4 x5 xz HC HP
      obtain ⟨x0, x1, x2, x3, x4, x5, xz⟩ := facts3 (S2.cells 0 rfl)
      go_wp2_with fail
      clear x0 x1 x2 x3 x4 x5 xz
      go_loopw [30] (fun i wr => ∃ (j : Nat), j ≤ T.zs.length ∧ i = .int .i64 j ∧ Hid (fairTo T j = true) ∧
          St w wr [It.box w.heap.size #[.int .i64 T.t, .int .i64 T.p, .slice a T.zs.length c] 27, It.read w.heap.size a T.zs]) (fun i _ => T.zs.length - (intOf i).toNat)
      case atStart => exact ⟨0, Nat.zero_le _, rfl, Lib.hid rfl, S2⟩
      case round =>
        obtain ⟨j, hj, rfl, HT, Sr⟩ := hrel
        clear S2
        by_cases hlt : j < T.zs.length
        · obtain ⟨x0, x1, x2, x3, x4, x5, xz⟩ := facts3 (Sr.cells 0 rfl)
          have j0 : (0 : Int) ≤ (j : Int) := by omega
          have j1 : (j : Int) < (T.zs.length : Int) := by omega
          obtain ⟨b, o, x, rfl, q, X⟩ := (Sr.reads 1 rfl).at hlt
          have hx9 := (valid_slot hv hlt).2
          have hSL : slotB T j = (decide (x < 0) || wayB T j (awN T T.zs j)) := by unfold slotB; rw [X.out]
          have HSU := Lib.hid (fairTo_succ T j)
          rw [X.out] at hx9
          by_cases hx0 : x < 0
          · have HS : Hid (fairTo T (j + 1) = true) := Lib.hid (by rw [HSU.out, HT.out, hSL, decide_eq_true hx0]; rfl)
            have dx : decide (x < 0) = true := decide_eq_true hx0
            clear hSL HSU
            go_wp2
            go_roundw
            case rel => exact ⟨j + 1, by omega, by go_num, HS, Sr⟩
            case measure => simp [intOf]; omega
          · have dx : decide (x < 0) = false := decide_eq_false hx0
            rw [dx, Bool.false_or] at hSL
            have hh := homeN_lt hv x
            have hhe := homeN_eq hv x
            have HSL := Lib.hid hSL
            have HNF : Hid (slotB T j = false → fairTo T T.zs.length = false) := Lib.hid (fair_not hlt)
            have HCH := Lib.hid fun W => l1Home_any T (some ⟨b, o, none⟩) c x W hv (by omega) hx9
            rw [← hhe] at HCH
            have HCA : Hid (∀ W, Calls Tryd.prog 13 #[tabV T (some ⟨b, o, none⟩) c, .int .i64 (homeN T x : Nat), .int .i64 j] W fun e W' => e = .returned (.int .i64 (awN T T.zs j : Nat)) ∧ Below W.heap.size W W') := Lib.hid fun W => by
              have h := l1Away_any T (some ⟨b, o, none⟩) c (homeN T x : Nat) (j : Int) W l1 l2 (by omega) (by omega) (by omega) (by omega)
              rw [dst_int hh hlt] at h
              unfold awN
              rw [X.out]
              exact h
            have HAH : Hid (∀ (m : Nat) W, m < awN T T.zs j → IntsAt W (some ⟨b, o, none⟩) T.zs → Calls Tryd.prog 14 #[tabV T (some ⟨b, o, none⟩) c, .int .i64 (stepS T (homeN T x) m : Nat), .int .i64 x, .int .i64 m] W fun e W' => e = .returned (.bool (aheadB T (stepS T (homeN T x) m) x m)) ∧ Below W.heap.size W W') := Lib.hid fun m W hm hi => by
              have hL := plain_left HPL.out
              have hst := stepS_lt (T := T) l1 (homeN T x) m
              have hd := dst_lt hh hlt
              have hml : m < T.zs.length := by
                have : awN T T.zs j = dst T.zs.length (homeN T x) j := by unfold awN; rw [X.out]
                omega
              have hne := hL.way j hlt (by rw [X.out]; omega) m hm
              rw [X.out, ← fwd_step hh (by omega)] at hne
              exact l6Ahead_any T _ c _ x m W hv hst (plain_key HPL.out hst hne).1 hi
            have HW1 : Hid (∀ m, wayB T j (m + 1) = (wayB T j m && aheadB T (stepS T (homeN T x) m) x m)) := Lib.hid fun m => by rw [wayB_succ, X.out]
            have HWN : Hid (∀ m, m < awN T T.zs j → aheadB T (stepS T (homeN T x) m) x m = false → wayB T j (awN T T.zs j) = false) := Lib.hid fun m hm h => way_not hm (by rw [X.out]; exact h)
            have haw : awN T T.zs j < T.zs.length := (away_self hv hlt (by rw [X.out]; omega)).2.1
            generalize awN T T.zs j = aw at HCA HAH HWN HSL haw
            generalize homeN T x = hm at hh HCH HCA HAH HW1 HWN
            clear hhe hSL
            go_wp2_with fail
            clear x0 x1 x2 x3 x4 x5 xz q
            refine (HCH.out _).mono ?_
            rintro e w5 ⟨rfl, hb⟩
            have S5 := Sr.below hb
            clear Sr hb
            obtain ⟨x0, x1, x2, x3, x4, x5, xz⟩ := facts3 (S5.cells 0 rfl)
            go_wp2_with fail
            clear x0 x1 x2 x3 x4 x5 xz
            refine (HCA.out _).mono ?_
            rintro e w6 ⟨rfl, hb⟩
            have S6 := S5.below hb
            clear S5 hb
            go_wp2_with fail
            go_loopw [44] (fun i wr => ∃ (m : Nat), m ≤ aw ∧ i = .int .i64 m ∧ Hid (wayB T j m = true) ∧
                St w wr [It.box w.heap.size #[.int .i64 T.t, .int .i64 T.p, .slice (some ⟨b, o, none⟩) T.zs.length c] 27, It.read w.heap.size (some ⟨b, o, none⟩) T.zs]) (fun i _ => aw - (intOf i).toNat)
            case atStart => exact ⟨0, Nat.zero_le _, rfl, Lib.hid rfl, S6⟩
            case round =>
              obtain ⟨m, hm1, rfl, HWM, Sq⟩ := hrel
              clear S6
              by_cases hlm : m < aw
              · obtain ⟨x0, x1, x2, x3, x4, x5, xz⟩ := facts3 (Sq.cells 0 rfl)
                have hn1 : ((T.zs.length : Int) == 0) = false := beq_eq_false_iff_ne.2 (by omega)
                have hn2 : ¬ T.zs = [] := fun e => by rw [e] at l1; simp at l1
                have hn3 : ¬ (T.zs.length = 0) := by omega
                have hrem : ((hm : Int) + (m : Int)) % (T.zs.length : Int) = (stepS T hm m : Nat) := by unfold stepS; simp
                have hrem2 : (IntKind.i64.wrap ((hm : Int) + (m : Int))).tmod (T.zs.length : Int) = (stepS T hm m : Nat) := by
                  rw [← hrem]
                  have hw : IntKind.i64.wrap ((hm : Int) + (m : Int)) = (hm : Int) + (m : Int) := by simp only [IntKind.wrap_i64]; omega
                  rw [hw, Int.tmod_eq_emod_of_nonneg (by omega)]
                have HA2 := Lib.hid fun W (hi : IntsAt W (some ⟨b, o, none⟩) T.zs) => HAH.out m W hlm hi
                have HN2 := Lib.hid (HWN.out m hlm)
                have hstl := stepS_lt (T := T) l1 hm m
                generalize hst : stepS T hm m = st at hrem hrem2 HA2 HN2 hstl
                have HR2 := Lib.hid hrem2
                clear hrem hrem2
                have hW1 := HW1.out m
                rw [hst] at hW1
                have HW2 := Lib.hid hW1
                clear hW1 hst
                cases hah : aheadB T st x m
                · have HFN : Hid (fairTo T T.zs.length = false) := Lib.hid (HNF.out (by rw [HSL.out]; exact HN2.out hah))
                  rw [hah] at HA2
                  have SD := Sq.drew
                  go_wp2_with fail
                  go_region_held3 (fun w' => w'.cell? ⟨w.heap.size, 0, none⟩ = some (.int .i64 T.t) ∧ w'.cell? ⟨w.heap.size, 1, none⟩ = some (.int .i64 T.p) ∧ w'.cell? ⟨w.heap.size, 2, none⟩ = some (.slice (some ⟨b, o, none⟩) T.zs.length c))
                    (first
                      | exact ⟨x0, x1, x2⟩
                      | exact SD.three 0 rfl)
                    (first
                      | (go_at_call 14; rw [HR2.out]; refine (HA2.out _ (by exact SD.reads 1 rfl)).mono ?_; rintro e w7 ⟨rfl, hb⟩; replace SD := SD.below hb; clear hb))
                  go_wp2
                  go_ret
                  exact ⟨by rw [E.out, HFN.out]; rfl, SD.old⟩
                · have HWM2 : Hid (wayB T j (m + 1) = true) := Lib.hid (by rw [HW2.out, HWM.out, hah]; rfl)
                  rw [hah] at HA2
                  have SD := Sq.drew
                  go_wp2_with fail
                  go_region_held3 (fun w' => w'.cell? ⟨w.heap.size, 0, none⟩ = some (.int .i64 T.t) ∧ w'.cell? ⟨w.heap.size, 1, none⟩ = some (.int .i64 T.p) ∧ w'.cell? ⟨w.heap.size, 2, none⟩ = some (.slice (some ⟨b, o, none⟩) T.zs.length c))
                    (first
                      | exact ⟨x0, x1, x2⟩
                      | exact SD.three 0 rfl)
                    (first
                      | (go_at_call 14; rw [HR2.out]; refine (HA2.out _ (by exact SD.reads 1 rfl)).mono ?_; rintro e w7 ⟨rfl, hb⟩; replace SD := SD.below hb; clear hb))
                  go_wp2
                  go_roundw
                  case rel => exact ⟨m + 1, by omega, by go_num, HWM2, SD⟩
                  case measure => simp [intOf]; omega
              · obtain rfl : m = aw := by omega
                have HS : Hid (fairTo T (j + 1) = true) := Lib.hid (by rw [HSU.out, HT.out, HSL.out, HWM.out]; rfl)
                go_wp2
                go_roundw
                case rel => exact ⟨j + 1, by omega, by go_num, HS, Sq⟩
                case measure => simp [intOf]; omega
        · obtain rfl : j = T.zs.length := by omega
          go_wp2
          go_ret
          exact ⟨by rw [E.out, HT.out]; rfl, Sr.old⟩

end Go.Proofs.YtdoodkdlfkekmaaDoor

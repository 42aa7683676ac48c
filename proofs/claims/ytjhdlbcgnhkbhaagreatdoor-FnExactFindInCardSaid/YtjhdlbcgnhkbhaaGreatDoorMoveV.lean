/-
  MoveValid: the program's.
-/
import Derived.Test.YtjhdlbcgnhkbhaaGreatDoorMove
import Derived.Test.YtjhdlbcgnhkbhaaGreatDoorShelf
import Derived.Test.YtjhdlbcgnhkbhaaGreatDoorShelf2
import Derived.Test.YtjhdlbcgnhkbhaaGreatDoorAreKeys
import Derived.Test.YtjhdlbcgnhkbhaaGreatDoorLostI
import Derived.Test.YtjhdlbcgnhkbhaaGreatDoorCount
namespace Go.Proofs.YtjhdlbcgnhkbhaaGreatDoor
open Go.RowKit

theorem containsI_any (ks : List Int) (a : Option Addr) (c : Nat) (x : Int) (w : World) (hl : ks.length ≤ 9223372036854775807) (h1 : IntsAt w a ks) :
    Calls Tryz.prog 51 #[.slice a ks.length c, .int .i64 x] w fun e w' => e = .returned (.bool (decide (x ∈ ks))) ∧ w' = w := by
  rcases Nat.eq_zero_or_pos ks.length with h0 | h0
  · obtain rfl := List.length_eq_zero_iff.1 h0
    refine (Tryz.slices_Contains_int_empty a c x w).mono ?_
    rintro e w' ⟨rfl, rfl⟩
    exact ⟨rfl, rfl⟩
  · obtain ⟨b, o, rfl, hc⟩ := h1 h0
    refine (Tryz.slices_Contains_int b o ks.length c ks x w (Nat.le_refl _) hl (fun j hj => by exact hc j hj)).mono ?_
    rintro e w' ⟨rfl, rfl⟩
    refine ⟨?_, rfl⟩
    rw [List.take_length]
    congr 2
    rw [Bool.eq_iff_iff]
    simp

/-- Some number of a list is so. -/
theorem any_yes {p : Int → Bool} {ks : List Int} {k : Nat} (hk : k < ks.length) (hx : p (nth ks k) = true) : ks.any p = true := List.any_eq_true.2 ⟨_, nth_mem hk, hx⟩
theorem any_no {p : Int → Bool} {ks : List Int} (h : ∀ j, j < ks.length → p (nth ks j) = false) : ks.any p = false := by
  rw [List.any_eq_false]
  intro x hx
  obtain ⟨i, hi, e⟩ := mem_nth hx
  rw [← e, h i hi]
  simp
theorem any_step {p : Int → Bool} {ks : List Int} {k : Nat} (h : ∀ j, j < k → p (nth ks j) = false) (hx : p (nth ks k) = false) : ∀ j, j < k + 1 → p (nth ks j) = false := fun j hj => by
  by_cases e : j = k
  · subst e; exact hx
  · exact h j (by omega)

set_option maxHeartbeats 1000000 in
theorem indexKey_any (p : Int → Bool)  (ks : List Int) (a : Option Addr) (c : Nat) (w : World) (hl : ks.length ≤ 9223372036854775806) (h1 : IntsAt w a ks)
    (HF : Hid (∀ n, Calls Tryz.prog 66 #[.int .i64 n] w fun e w' => e = .returned (.bool (p n)) ∧ w' = w)) :
    Calls Tryz.prog 91 #[.slice a ks.length c, .func (.func 66) #[] #[]] w fun e w' => (∃ v : Int, e = .returned (.int .i64 v) ∧ decide (0 ≤ v) = ks.any p) ∧ w' = w := by
  go_enter Tryz.func91, Tryz.ntmps91
  go_wp2
  go_loopw [5, 8] (fun _ i wr => ∃ k : Nat, k ≤ ks.length ∧ i = .int .i64 k ∧ Hid (∀ j, j < k → p (nth ks j) = false) ∧ wr = w) (fun _ i _ => ks.length - (intOf i).toNat)
  case atStart => exact ⟨0, Nat.zero_le _, rfl, Lib.hid (fun j hj => by omega), rfl⟩
  case round =>
    obtain ⟨k, hk, rfl, H, rfl⟩ := hrel
    by_cases hlt : k < ks.length
    · have k0 : (0 : Int) ≤ (k : Int) := by omega
      have k1 : (k : Int) < (ks.length : Int) := by omega
      obtain ⟨b, o, x, rfl, q, X⟩ := h1.at hlt
      cases hx : p x
      · have H2 := Lib.hid (any_step H.out (by rw [X.out]; exact hx))
        go_wp2_with (go_at_call 66; refine (HF.out _).mono ?_; rintro e w' ⟨rfl, rfl⟩; rw [hx])
        go_roundw
        case rel => exact ⟨k + 1, by omega, by go_num, H2, trivial⟩
        case measure => simp [intOf]; omega
      · have R : Hid (ks.any p = true) := Lib.hid (any_yes hlt (by rw [X.out]; exact hx))
        have d : decide ((0 : Int) ≤ (k : Int)) = true := decide_eq_true k0
        have D := Lib.hid d
        clear d
        go_wp2_with (go_at_call 66; refine (HF.out _).mono ?_; rintro e w' ⟨rfl, rfl⟩; rw [hx])
        go_ret
        exact ⟨⟨_, rfl, by rw [R.out]; exact D.out⟩, rfl⟩
    · obtain rfl : k = ks.length := by omega
      have R : Hid (ks.any p = false) := Lib.hid (any_no H.out)
      go_wp2
      go_ret
      exact ⟨⟨-1, rfl, by rw [R.out]; rfl⟩, rfl⟩

set_option maxHeartbeats 400000 in
theorem containsKey_any (p : Int → Bool)  (ks : List Int) (a : Option Addr) (c : Nat) (w : World) (hl : ks.length ≤ 9223372036854775806) (h1 : IntsAt w a ks)
    (HF : Hid (∀ n, Calls Tryz.prog 66 #[.int .i64 n] w fun e w' => e = .returned (.bool (p n)) ∧ w' = w)) :
    Calls Tryz.prog 65 #[.slice a ks.length c, .func (.func 66) #[] #[]] w fun e w' => e = .returned (.bool (ks.any p)) ∧ w' = w := by
  go_enter Tryz.func65, Tryz.ntmps65
  go_wp2_with fail
  refine (indexKey_any p  ks a c w hl h1 HF).mono ?_
  rintro e w' ⟨⟨v, rfl, hv⟩, rfl⟩
  have V := Lib.hid hv
  clear hv
  go_wp2
  go_ret
  exact ⟨by rw [← V.out]; rfl, rfl⟩

set_option maxHeartbeats 1000000 in
theorem indexTake_any (p : Int → Bool) (Bk : Nat) (ks : List Int) (a : Option Addr) (c : Nat) (w : World) (hl : ks.length ≤ 9223372036854775806) (h1 : IntsAt w a ks)
    (HF : Hid (∀ n, Calls Tryz.prog 68 #[.int .i64 n, .pointer (some ⟨Bk, 0, none⟩)] w fun e w' => e = .returned (.bool (p n)) ∧ w' = w)) :
    Calls Tryz.prog 91 #[.slice a ks.length c, .func (.func 68) #[] #[.pointer (some ⟨Bk, 0, none⟩)]] w fun e w' => (∃ v : Int, e = .returned (.int .i64 v) ∧ decide (0 ≤ v) = ks.any p) ∧ w' = w := by
  go_enter Tryz.func91, Tryz.ntmps91
  go_wp2
  go_loopw [5, 8] (fun _ i wr => ∃ k : Nat, k ≤ ks.length ∧ i = .int .i64 k ∧ Hid (∀ j, j < k → p (nth ks j) = false) ∧ wr = w) (fun _ i _ => ks.length - (intOf i).toNat)
  case atStart => exact ⟨0, Nat.zero_le _, rfl, Lib.hid (fun j hj => by omega), rfl⟩
  case round =>
    obtain ⟨k, hk, rfl, H, rfl⟩ := hrel
    by_cases hlt : k < ks.length
    · have k0 : (0 : Int) ≤ (k : Int) := by omega
      have k1 : (k : Int) < (ks.length : Int) := by omega
      obtain ⟨b, o, x, rfl, q, X⟩ := h1.at hlt
      cases hx : p x
      · have H2 := Lib.hid (any_step H.out (by rw [X.out]; exact hx))
        go_wp2_with (go_at_call 68; refine (HF.out _).mono ?_; rintro e w' ⟨rfl, rfl⟩; rw [hx])
        go_roundw
        case rel => exact ⟨k + 1, by omega, by go_num, H2, trivial⟩
        case measure => simp [intOf]; omega
      · have R : Hid (ks.any p = true) := Lib.hid (any_yes hlt (by rw [X.out]; exact hx))
        have d : decide ((0 : Int) ≤ (k : Int)) = true := decide_eq_true k0
        have D := Lib.hid d
        clear d
        go_wp2_with (go_at_call 68; refine (HF.out _).mono ?_; rintro e w' ⟨rfl, rfl⟩; rw [hx])
        go_ret
        exact ⟨⟨_, rfl, by rw [R.out]; exact D.out⟩, rfl⟩
    · obtain rfl : k = ks.length := by omega
      have R : Hid (ks.any p = false) := Lib.hid (any_no H.out)
      go_wp2
      go_ret
      exact ⟨⟨-1, rfl, by rw [R.out]; rfl⟩, rfl⟩

set_option maxHeartbeats 400000 in
theorem containsTake_any (p : Int → Bool) (Bk : Nat) (ks : List Int) (a : Option Addr) (c : Nat) (w : World) (hl : ks.length ≤ 9223372036854775806) (h1 : IntsAt w a ks)
    (HF : Hid (∀ n, Calls Tryz.prog 68 #[.int .i64 n, .pointer (some ⟨Bk, 0, none⟩)] w fun e w' => e = .returned (.bool (p n)) ∧ w' = w)) :
    Calls Tryz.prog 65 #[.slice a ks.length c, .func (.func 68) #[] #[.pointer (some ⟨Bk, 0, none⟩)]] w fun e w' => e = .returned (.bool (ks.any p)) ∧ w' = w := by
  go_enter Tryz.func65, Tryz.ntmps65
  go_wp2_with fail
  refine (indexTake_any p Bk ks a c w hl h1 HF).mono ?_
  rintro e w' ⟨⟨v, rfl, hv⟩, rfl⟩
  have V := Lib.hid hv
  clear hv
  go_wp2
  go_ret
  exact ⟨by rw [← V.out]; rfl, rfl⟩

/-- Keys from Next on only. -/
def leftL (zs : List Int) (x : Int) : Bool := decide (0 ≤ x) && (decide (x ≤ zs.length) && !((zs.take x.toNat).any fun z => inB z 0 99))

theorem IntsAt.take {w : World} {a : Option Addr} {zs : List Int} (h : IntsAt w a zs) (n : Nat) : IntsAt w a (zs.take n) := by
  intro h0
  obtain ⟨b, off, e, hc⟩ := h (by rw [List.length_take] at h0; omega)
  refine ⟨b, off, e, fun j hj => ?_⟩
  rw [List.length_take] at hj
  rw [List.getElem?_take, if_pos (by omega)]
  exact hc j (by omega)

set_option maxHeartbeats 1000000 in
theorem hasLeft_any (T : Tab) (a : Option Addr) (c : Nat) (x : Int) (w : World) (hn : T.zs.length ≤ 16) (hn1 : 1 ≤ T.zs.length) (hc : T.zs.length ≤ c) (h1 : IntsAt w a T.zs) :
    Calls Tryz.prog 42 #[tabV T a c, .int .i64 x] w fun e w' => e = .returned (.bool (leftL T.zs x)) ∧ Below w.heap.size w w' := by
  have S0 := ((St.start w).read h1).alloc #[.int .i64 T.t, .int .i64 T.p, .slice a T.zs.length c] 30
  obtain ⟨x0, x1, x2, x3, x4, x5, xz⟩ := facts3 (S0.cells 0 rfl)
  have LL : Hid (∀ y, leftL T.zs x = y ↔ (decide (0 ≤ x) && (decide (x ≤ T.zs.length) && !((T.zs.take x.toNat).any fun z => inB z 0 99))) = y) := Lib.hid (fun y => Iff.rfl)
  by_cases h0 : 0 ≤ x
  · have d0 : decide (0 ≤ x) = true := decide_eq_true h0
    by_cases h2 : x ≤ T.zs.length
    · have d2 : decide (x ≤ (T.zs.length : Int)) = true := decide_eq_true h2
      obtain ⟨k, rfl⟩ : ∃ k : Nat, x = k := ⟨x.toNat, by omega⟩
      have hl : (T.zs.take k).length = k := by rw [List.length_take]; omega
      have hI := (S0.reads 1 rfl).take k
      obtain ⟨b, o, rfl, _⟩ := h1 (by omega)
      have HC := containsKey_any (fun z => inB z 0 99) (T.zs.take k) (some ⟨b, o, none⟩) c _ (by omega) hI (Lib.hid fun n => (isKey_any n _).mono (by rintro e w' ⟨rfl, rfl⟩; exact ⟨rfl, rfl⟩))
      rw [hl] at HC
      have R := Lib.hid ((LL.out _).2 rfl)
      rw [d0, d2, Bool.true_and, Bool.true_and, Int.toNat_natCast] at R
      generalize (T.zs.take k).any _ = y at HC R
      go_enter Tryz.func42, Tryz.ntmps42
      go_wp2_with fail
      refine HC.mono ?_
      rintro e w1 ⟨rfl, rfl⟩
      go_wp2
      go_ret
      exact ⟨ret_bool R.out.symm, S0.old⟩
    · have d2 : decide (x ≤ (T.zs.length : Int)) = false := decide_eq_false h2
      have R : Hid (leftL T.zs x = false) := Lib.hid ((LL.out _).2 (by rw [d2]; simp))
      go_enter Tryz.func42, Tryz.ntmps42
      go_wp2
      go_ret
      exact ⟨ret_bool R.out.symm, S0.old⟩
  · have d0 : decide (0 ≤ x) = false := decide_eq_false h0
    have R : Hid (leftL T.zs x = false) := Lib.hid ((LL.out _).2 (by rw [d0]; rfl))
    go_enter Tryz.func42, Tryz.ntmps42
    go_wp2
    go_ret
    exact ⟨ret_bool R.out.symm, S0.old⟩

theorem takes_any (T : Tab) (a : Option Addr) (c Bk : Nat) (n : Int) (w : World) (hx : T.zs.length ≤ 9223372036854775807) (hB : w.heap[Bk]? = some (.cells #[.int .i64 T.t, .int .i64 T.p, .slice a T.zs.length c] 30 (0, 0))) (h1 : IntsAt w a T.zs) :
    Calls Tryz.prog 68 #[.int .i64 n, .pointer (some ⟨Bk, 0, none⟩)] w fun e w' => e = .returned (.bool (decide (n ∈ T.zs))) ∧ w' = w := by
  obtain ⟨x0, x1, x2, x3, x4, x5, xz⟩ := facts3 hB
  go_enter Tryz.func68, Tryz.ntmps68
  go_wp2_with fail
  refine (containsI_any T.zs a c n w hx h1).mono ?_
  rintro e w1 ⟨rfl, rfl⟩
  go_wp2
  go_ret
  exact ⟨rfl, rfl⟩

set_option maxHeartbeats 1000000 in
theorem canTakeAll_any (T : Tab) (a : Option Addr) (c : Nat) (ks : List Int) (ak : Option Addr) (ck : Nat) (w : World) (hx : T.zs.length ≤ 16) (hv : validB T = true) (hk : ks.length ≤ 100) (h1 : IntsAt w a T.zs) (h2 : IntsAt w ak ks) :
    Calls Tryz.prog 43 #[tabV T a c, .slice ak ks.length ck] w fun e w' => e = .returned (.bool (takesB T ks)) ∧ Below w.heap.size w w' := by
  have S0 := (((St.start w).read h1).read h2).alloc #[.int .i64 T.t, .int .i64 T.p, .slice a T.zs.length c] 30
  have hcb : 0 ≤ countK T ∧ countK T ≤ 16 := by
    have := cnt_le keyP T.zs T.zs.length
    rw [countK_is hv]
    omega
  obtain ⟨x0, x1, x2, x3, x4, x5, xz⟩ := facts3 (S0.cells 0 rfl)
  have LL : Hid (∀ y, takesB T ks = y ↔ (decide ((ks.length : Int) ≤ T.zs.length - countK T) && !(ks.any fun k => decide (k ∈ T.zs))) = y) := Lib.hid (fun y => Iff.rfl)
  have HC := CountSlots_any T a c _ (by omega) (S0.reads 2 rfl)
  generalize countK T = kk at hcb LL HC
  by_cases hle : (ks.length : Int) ≤ (T.zs.length : Int) - kk
  · have d : decide ((ks.length : Int) ≤ (T.zs.length : Int) - kk) = true := decide_eq_true hle
    have R := Lib.hid ((LL.out _).2 rfl)
    rw [d, Bool.true_and] at R
    go_enter Tryz.func43, Tryz.ntmps43
    go_wp2_with fail
    refine HC.mono ?_
    rintro e w1 ⟨rfl, hb⟩
    have S1 := S0.below hb
    clear S0 hb x0 x1 x2 x3 x4 x5 xz
    obtain ⟨x0, x1, x2, x3, x4, x5, xz⟩ := facts3 (S1.cells 0 rfl)
    have HT := containsTake_any (fun k => decide (k ∈ T.zs)) w.heap.size ks ak ck w1 (by omega) (S1.reads 1 rfl) (Lib.hid fun n => takes_any T a c w.heap.size n w1 (by omega) (S1.cells 0 rfl) (S1.reads 2 rfl))
    generalize ks.any _ = y at HT R
    go_wp2_with fail
    refine HT.mono ?_
    rintro e w2 ⟨rfl, rfl⟩
    go_wp2
    go_ret
    exact ⟨ret_bool R.out.symm, S1.old⟩
  · have d : decide ((ks.length : Int) ≤ (T.zs.length : Int) - kk) = false := decide_eq_false hle
    have R : Hid (takesB T ks = false) := Lib.hid ((LL.out _).2 (by rw [d]; rfl))
    go_enter Tryz.func43, Tryz.ntmps43
    go_wp2_with fail
    refine HC.mono ?_
    rintro e w1 ⟨rfl, hb⟩
    have S1 := S0.below hb
    clear S0 hb x0 x1 x2 x3 x4 x5 xz
    obtain ⟨x0, x1, x2, x3, x4, x5, xz⟩ := facts3 (S1.cells 0 rfl)
    go_wp2_with fail
    go_ret
    exact ⟨ret_bool R.out.symm, S1.old⟩

set_option maxHeartbeats 4000000 in
theorem MoveValid_any (M : Mov) (a1 : Option Addr) (c1 : Nat) (a2 : Option Addr) (c2 : Nat) (w : World) (hx1 : M.o.zs.length ≤ 9223372036854775807) (hx2 : M.n.zs.length ≤ 9223372036854775807) (hc : M.o.zs.length ≤ c1) (h1 : IntsAt w a1 M.o.zs) (h2 : IntsAt w a2 M.n.zs) :
    Calls Tryz.prog 22 #[movV M a1 c1 a2 c2] w fun e w' => e = .returned (.bool (movB M)) ∧ Below w.heap.size w w' := by
  have S0 := (((St.start w).read h1).read h2).alloc (movC M a1 c1 a2 c2) 32
  obtain ⟨x0, x1, x2, x3, x4, x5, x6, xz⟩ := facts7 (S0.cells 0 rfl)
  cases hs1 : soundB M.o
  · have R : Hid (movB M = false) := Lib.hid (movB_no (by simp [headM, hs1]))
    go_enter Tryz.func22, Tryz.ntmps22
    go_wp2_with fail
    refine (IsSound_any M.o a1 c1 _ hx1 (by exact S0.reads 2 rfl)).mono ?_
    rw [hs1]
    rintro e w1 ⟨rfl, hb⟩
    have S1 := S0.below hb
    clear x0 x1 x2 x3 x4 x5 x6 xz
    go_wp2_with fail
    go_ret
    exact ⟨ret_bool R.out.symm, S1.old⟩
  have V1 := sound_valid hs1
  cases hs2 : soundB M.n
  · have R : Hid (movB M = false) := Lib.hid (movB_no (by simp [headM, hs2]))
    go_enter Tryz.func22, Tryz.ntmps22
    go_wp2_with fail
    refine (IsSound_any M.o a1 c1 _ hx1 (by exact S0.reads 2 rfl)).mono ?_
    rw [hs1]
    rintro e w1 ⟨rfl, hb⟩
    have S1 := S0.below hb
    clear S0 hb x0 x1 x2 x3 x4 x5 x6 xz
    obtain ⟨x0, x1, x2, x3, x4, x5, x6, xz⟩ := facts7 (S1.cells 0 rfl)
    go_wp2_with fail
    refine (IsSound_any M.n a2 c2 _ hx2 (by exact S1.reads 1 rfl)).mono ?_
    rw [hs2]
    rintro e w2 ⟨rfl, hb⟩
    have S2 := S1.below hb
    clear x0 x1 x2 x3 x4 x5 x6 xz
    go_wp2_with fail
    go_ret
    exact ⟨ret_bool R.out.symm, S2.old⟩
  have V2 := sound_valid hs2
  by_cases ht : M.o.t = M.n.t
  · by_cases hp : M.o.p = M.n.p
    · have PM := Lib.hid (prog_mov hs1 hs2 ht hp)
      have t0 : (M.o.t != M.n.t) = false := by simp [ht]
      have p0 : (M.o.p != M.n.p) = false := by simp [hp]
      have T0 := Lib.hid ht
      have P0 := Lib.hid hp
      clear ht hp
      obtain ⟨⟨l1, l2⟩, _⟩ := valid_facts V1
      obtain ⟨⟨l3, l4⟩, _⟩ := valid_facts V2
      have hkl : (sortU M.o.zs).length ≤ 100 := sortTo_len _ _
      have HK := KeysIn_any M.o a1 c1
      rw [V1, show keysOf M.o = sortU M.o.zs by simp [keysOf, V1]] at HK
      have HK := Lib.hid HK
      generalize hks : sortU M.o.zs = ks at HK hkl PM
      have HL : Hid (leftB M = leftL M.o.zs M.x) := Lib.hid rfl
      go_enter Tryz.func22, Tryz.ntmps22
      go_wp2_with fail
      refine (IsSound_any M.o a1 c1 _ hx1 (by exact S0.reads 2 rfl)).mono ?_
      rw [hs1]
      rintro e w1 ⟨rfl, hb⟩
      have S1 := S0.below hb
      clear S0 hb x0 x1 x2 x3 x4 x5 x6 xz
      obtain ⟨x0, x1, x2, x3, x4, x5, x6, xz⟩ := facts7 (S1.cells 0 rfl)
      go_wp2_with fail
      refine (IsSound_any M.n a2 c2 _ hx2 (by exact S1.reads 1 rfl)).mono ?_
      rw [hs2]
      rintro e w2 ⟨rfl, hb⟩
      have S2 := S1.below hb
      clear S1 hb x0 x1 x2 x3 x4 x5 x6 xz
      obtain ⟨x0, x1, x2, x3, x4, x5, x6, xz⟩ := facts7 (S2.cells 0 rfl)
      go_wp2_with fail
      refine (HK.out _ hx1 (by exact S2.reads 2 rfl)).mono ?_
      rintro e w3 ⟨ak, ck, rfl, ho, hb⟩
      have S3 := (S2.below hb).own ho
      clear S2 hb ho x0 x1 x2 x3 x4 x5 x6 xz
      obtain ⟨x0, x1, x2, x3, x4, x5, x6, xz⟩ := facts7 (S3.cells 1 rfl)
      cases hlb : leftL M.o.zs M.x
      · have R : Hid (movB M = false) := Lib.hid (by rw [← PM.out, HL.out, hlb]; rfl)
        go_wp2_with fail
        refine (hasLeft_any M.o a1 c1 M.x _ l2 l1 hc (by exact S3.reads 3 rfl)).mono ?_
        rw [hlb]
        rintro e w4 ⟨rfl, hb⟩
        have S4 := S3.below hb
        clear S3 hb x0 x1 x2 x3 x4 x5 x6 xz
        go_wp2_with fail
        go_ret
        exact ⟨ret_bool R.out.symm, S4.old⟩
      · have R : Hid (takesB M.n ks = movB M) := Lib.hid (by rw [← PM.out, HL.out, hlb]; rfl)
        go_wp2_with fail
        refine (hasLeft_any M.o a1 c1 M.x _ l2 l1 hc (by exact S3.reads 3 rfl)).mono ?_
        rw [hlb]
        rintro e w4 ⟨rfl, hb⟩
        have S4 := S3.below hb
        clear S3 hb x0 x1 x2 x3 x4 x5 x6 xz
        obtain ⟨x0, x1, x2, x3, x4, x5, x6, xz⟩ := facts7 (S4.cells 1 rfl)
        go_wp2_with fail
        refine (canTakeAll_any M.n a2 c2 ks ak ck _ l4 V2 hkl (by exact S4.reads 2 rfl) (by exact S4.ints 0 rfl)).mono ?_
        rintro e w5 ⟨rfl, hb⟩
        have S5 := S4.below hb
        go_wp2_with fail
        go_ret
        exact ⟨ret_bool R.out, S5.old⟩
    · have t0 : (M.o.t != M.n.t) = false := by simp [ht]
      have p0 : (M.o.p != M.n.p) = true := by simp [hp]
      have R : Hid (movB M = false) := Lib.hid (movB_no (by simp [headM, hp]))
      clear ht hp
      go_enter Tryz.func22, Tryz.ntmps22
      go_wp2_with fail
      refine (IsSound_any M.o a1 c1 _ hx1 (by exact S0.reads 2 rfl)).mono ?_
      rw [hs1]
      rintro e w1 ⟨rfl, hb⟩
      have S1 := S0.below hb
      clear S0 hb x0 x1 x2 x3 x4 x5 x6 xz
      obtain ⟨x0, x1, x2, x3, x4, x5, x6, xz⟩ := facts7 (S1.cells 0 rfl)
      go_wp2_with fail
      refine (IsSound_any M.n a2 c2 _ hx2 (by exact S1.reads 1 rfl)).mono ?_
      rw [hs2]
      rintro e w2 ⟨rfl, hb⟩
      have S2 := S1.below hb
      clear S1 hb x0 x1 x2 x3 x4 x5 x6 xz
      obtain ⟨x0, x1, x2, x3, x4, x5, x6, xz⟩ := facts7 (S2.cells 0 rfl)
      go_wp2_with fail
      go_ret
      exact ⟨ret_bool R.out.symm, S2.old⟩
  · have t0 : (M.o.t != M.n.t) = true := by simp [ht]
    have R : Hid (movB M = false) := Lib.hid (movB_no (by simp [headM, ht]))
    clear ht
    go_enter Tryz.func22, Tryz.ntmps22
    go_wp2_with fail
    refine (IsSound_any M.o a1 c1 _ hx1 (by exact S0.reads 2 rfl)).mono ?_
    rw [hs1]
    rintro e w1 ⟨rfl, hb⟩
    have S1 := S0.below hb
    clear S0 hb x0 x1 x2 x3 x4 x5 x6 xz
    obtain ⟨x0, x1, x2, x3, x4, x5, x6, xz⟩ := facts7 (S1.cells 0 rfl)
    go_wp2_with fail
    refine (IsSound_any M.n a2 c2 _ hx2 (by exact S1.reads 1 rfl)).mono ?_
    rw [hs2]
    rintro e w2 ⟨rfl, hb⟩
    have S2 := S1.below hb
    clear S1 hb x0 x1 x2 x3 x4 x5 x6 xz
    obtain ⟨x0, x1, x2, x3, x4, x5, x6, xz⟩ := facts7 (S2.cells 0 rfl)
    go_wp2_with fail
    go_ret
    exact ⟨ret_bool R.out.symm, S2.old⟩

end Go.Proofs.YtjhdlbcgnhkbhaaGreatDoor

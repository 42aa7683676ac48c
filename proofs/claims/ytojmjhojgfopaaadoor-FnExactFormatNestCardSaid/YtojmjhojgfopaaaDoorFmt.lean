/-
  The text of a table, of the model.
-/
import Derived.Test.YtojmjhojgfopaaaDoorText
import Derived.Deep.RegionHeld3
import Derived.Test.YtojmjhojgfopaaaDoorBase
namespace Go.Proofs.YtojmjhojgfopaaaDoor
open Go.RowKit

/-- The text of a slot. -/
def slotL (x : Int) : List UInt8 := if x = -1 then [46] else if x = -2 then [120] else Lib.decDigits x.toNat
def headL (T : Tab) : List UInt8 := ((Lib.decDigits T.t.toNat ++ [43]) ++ Lib.decDigits T.p.toNat) ++ [58]
/-- The text of a table, up to its first k slots. -/
def preL (T : Tab) (k : Nat) : List UInt8 := headL T ++ Lib.join ((T.zs.take k).map slotL) [32]
def fmtL (T : Tab) : List UInt8 := preL T T.zs.length
/-- FormatTable of the document. -/
def fmtOf (T : Tab) : List UInt8 := if validB T then fmtL T else []

theorem dec_len {n : Nat} (h : n < 100) : (Lib.decDigits n).length ≤ 2 := by
  by_cases h1 : n < 10
  · rw [Lib.decDigits_one h1]; simp
  · rw [Lib.decDigits_two h1 h]; simp

theorem join_snoc (xs : List (List UInt8)) (x sep : List UInt8) (h : xs ≠ []) : Lib.join (xs ++ [x]) sep = Lib.join xs sep ++ (sep ++ x) := by
  obtain ⟨y, r, rfl⟩ := List.exists_cons_of_ne_nil h
  rw [List.cons_append, Lib.join_cons, Lib.join_cons]
  simp [Lib.joinTail]

theorem preL_zero (T : Tab) : preL T 0 = headL T := by simp [preL, Lib.join_nil]
theorem preL_one {T : Tab} {x : Int} (hk : 0 < T.zs.length) (hx : nth T.zs 0 = x) : preL T 1 = preL T 0 ++ slotL x := by
  rw [preL_zero]
  have e : T.zs[0] = x := by simpa [nth, List.getElem?_eq_getElem hk] using hx
  rw [preL, List.take_succ_eq_append_getElem hk, e]
  simp [Lib.join_one]
theorem preL_succ {T : Tab} {x : Int} {k : Nat} (h0 : 0 < k) (hk : k < T.zs.length) (hx : nth T.zs k = x) : preL T (k + 1) = (preL T k ++ [32]) ++ slotL x := by
  have e : T.zs[k] = x := by simpa [nth, List.getElem?_eq_getElem hk] using hx
  rw [preL, List.take_succ_eq_append_getElem hk, e, List.map_append, List.map_singleton, join_snoc _ _ _ (by
    intro h
    have := congrArg List.length h
    simp at this
    rcases this with h1 | h1
    · omega
    · rw [h1] at hk; simp at hk)]
  simp [preL, List.append_assoc]

theorem str_of {s : ByteArray} {l : List UInt8} (h : s.data.toList = l) : Value.string s = str l := by
  subst h
  cases s
  rfl
theorem addB (w : World) (a b : ByteArray) (h : a.size + b.size ≤ 100000) : (Op.stringOp .add a b).run Tryd.prog w = .ok (.string (a ++ b)) w := run_string_add_sum w a b (by omega)

theorem one_size (x : UInt8) : (⟨#[x]⟩ : ByteArray).size = 1 := rfl
theorem snoc_bytes {s : ByteArray} {l : List UInt8} (h : s.data.toList = l) (x : UInt8) : (s ++ ⟨#[x]⟩).data.toList = l ++ [x] := by
  subst h; simp [ByteArray.data_append]
theorem app_bytes {s b : ByteArray} {l r : List UInt8} (h : s.data.toList = l) (h2 : b.data.toList = r) : (s ++ b).data.toList = l ++ r := by
  subst h h2; simp [ByteArray.data_append]

/-- A decimal number below 100, its string under one name. -/
theorem l14Dec_str (n : Nat) (h : n < 100) : ∃ b : ByteArray, Hid (b.data.toList = Lib.decDigits n) ∧ b.size ≤ 2 ∧ Hid (∀ W, Calls Tryd.prog 11 #[.int .i64 n] W fun e w' => e = .returned (.string b) ∧ Below W.heap.size W w') :=
  ⟨⟨(Lib.decDigits n).toArray⟩, Lib.hid rfl, by simpa [ByteArray.size] using dec_len h, Lib.hid fun W => l14Dec_any n W (by omega)⟩

set_option maxHeartbeats 4000000 in
set_option maxRecDepth 100000 in
theorem specFormatTable_any (T : Tab) (a : Option Addr) (c : Nat) (w : World) (hx : T.zs.length ≤ 9223372036854775807) (h1 : IntsAt w a T.zs) :
    Calls Tryd.prog 12 #[tabV T a c] w fun e w' => e = .returned (str (fmtOf T)) ∧ Below w.heap.size w w' := by
  have S0 := ((St.start w).read h1).alloc #[.int .i64 T.t, .int .i64 T.p, .slice a T.zs.length c] 36
  cases hv : validB T
  · go_enter Tryd.func12, Tryd.ntmps12
    go_wp2_with fail
    refine (specTableValid_any T a c _ hx (by exact S0.reads 1 rfl)).mono ?_
    rw [hv]
    rintro e w1 ⟨rfl, hb⟩
    have S1 := S0.below hb
    go_wp2
    go_ret
    exact ⟨by simp [fmtOf, hv], S1.old⟩
  · obtain ⟨⟨l1, l2⟩, ⟨t1, t2⟩, ⟨p1, p2⟩, _⟩ := valid_facts hv
    have HV := Lib.hid hv
    clear hv
    obtain ⟨tn, ht⟩ : ∃ n : Nat, T.t = n := ⟨T.t.toNat, by omega⟩
    obtain ⟨pn, hp⟩ : ∃ n : Nat, T.p = n := ⟨T.p.toNat, by omega⟩
    have HH : Hid (headL T = ((Lib.decDigits tn ++ [43]) ++ Lib.decDigits pn) ++ [58]) := Lib.hid (by rw [headL, ht, hp]; simp)
    obtain ⟨bx, BX, e1, D1⟩ := l14Dec_str tn (by omega)
    obtain ⟨bq, BY, e2, D2⟩ := l14Dec_str pn (by omega)
    have HT := Lib.hid ht
    have HP := Lib.hid hp
    clear ht hp
    go_enter Tryd.func12, Tryd.ntmps12
    go_wp2_with fail
    refine (specTableValid_any T a c _ hx (by exact S0.reads 1 rfl)).mono ?_
    rw [HV.out]
    rintro e w1 ⟨rfl, hb⟩
    have S1 := S0.below hb
    clear S0 hb
    obtain ⟨x0, x1, x2, x3, x4, x5, xz⟩ := facts3 (S1.cells 0 rfl)
    rw [HT.out] at x0
    rw [HP.out] at x1
    have f1 := fun W => addB W bx ⟨#[43]⟩ (by rw [one_size]; omega)
    have f2 := fun W => addB W (bx ++ ⟨#[43]⟩) bq (by rw [ByteArray.size_append, one_size]; omega)
    have f3 := fun W => addB W ((bx ++ ⟨#[43]⟩) ++ bq) ⟨#[58]⟩ (by rw [ByteArray.size_append, ByteArray.size_append, one_size, one_size]; omega)
    go_wp2_with fail
    go_region_held3 (fun w' => w'.cell? ⟨w.heap.size, 0, none⟩ = some (.int .i64 tn) ∧ w'.cell? ⟨w.heap.size, 1, none⟩ = some (.int .i64 pn))
      (first
        | exact ⟨x0, x1⟩
        | exact ⟨by rw [← HT.out]; exact (S2.three 0 rfl).1, by rw [← HP.out]; exact (S2.three 0 rfl).2.1⟩
        | exact ⟨by rw [← HT.out]; exact (S3.three 0 rfl).1, by rw [← HP.out]; exact (S3.three 0 rfl).2.1⟩)
      (first
        | ((with_reducible refine (D1.out _).mono ?_); rintro e w2 ⟨rfl, hb⟩; have S2 := S1.drew.below hb; clear hb)
        | ((with_reducible refine (D2.out _).mono ?_); rintro e w3 ⟨rfl, hb⟩; have S3 := S2.below hb; clear hb))
    clear f1 f2 f3 x0 x1 x2 x3 x4 x5 xz S1 S2
    obtain ⟨s0, hs0⟩ : ∃ s0, bx ++ ⟨#[43]⟩ ++ bq ++ ⟨#[58]⟩ = s0 := ⟨_, rfl⟩
    have H0 : Hid (s0.data.toList = preL T 0) := Lib.hid (by rw [← hs0, preL_zero, HH.out]; exact snoc_bytes (app_bytes (snoc_bytes BX.out 43) BY.out) 58)
    have z0 : s0.size ≤ 6 := by rw [← hs0, ByteArray.size_append, ByteArray.size_append, ByteArray.size_append, one_size, one_size]; omega
    rw [hs0]
    clear hs0 HH BX BY e1 e2 D1 D2
    obtain ⟨x0, x1, x2, x3, x4, x5, xz⟩ := facts3 (S3.cells 0 rfl)
    go_wp2_with fail
    clear x0 x1 x2 x3 x4 x5 xz
    go_loopw [3, 21] (fun o i wr => ∃ (k : Nat) (s : ByteArray), k ≤ T.zs.length ∧ o = .string s ∧ i = .int .i64 k ∧ Hid (s.data.toList = preL T k) ∧ s.size ≤ 6 + 3 * k ∧ St w wr [It.box w.heap.size #[.int .i64 T.t, .int .i64 T.p, .slice a T.zs.length c] 36, It.read w.heap.size a T.zs]) (fun _ i _ => T.zs.length - (intOf i).toNat)
    case atStart => exact ⟨0, s0, Nat.zero_le _, rfl, rfl, H0, by omega, S3⟩
    case round =>
      obtain ⟨k, s, hk, rfl, rfl, hs, hz, Sr⟩ := hrel
      clear S3 H0
      by_cases hlt : k < T.zs.length
      · obtain ⟨b, o, x, rfl, q, X⟩ := (Sr.reads 1 rfl).at hlt
        have hsl := valid_slot HV.out hlt
        rw [X.out] at hsl
        obtain ⟨hx1, hx2⟩ := hsl
        by_cases h0 : k = 0
        · subst h0
          rw [Nat.add_zero] at q
          have d0 : decide ((0 : Int) < 0) = false := rfl
          by_cases e1 : x = -1
          · subst e1
            have g1 := fun W => addB W s ⟨#[46]⟩ (by rw [one_size]; omega)
            go_wp2
            go_roundw
            case rel => exact ⟨0 + 1, _, by omega, rfl, by go_num, Lib.hid (by rw [preL_one hlt X.out]; exact snoc_bytes hs.out 46), by rw [ByteArray.size_append, one_size]; omega, Sr⟩
            case measure => simp [intOf]; omega
          · by_cases e2 : x = -2
            · subst e2
              have g1 := fun W => addB W s ⟨#[120]⟩ (by rw [one_size]; omega)
              go_wp2
              go_roundw
              case rel => exact ⟨0 + 1, _, by omega, rfl, by go_num, Lib.hid (by rw [preL_one hlt X.out]; exact snoc_bytes hs.out 120), by rw [ByteArray.size_append, one_size]; omega, Sr⟩
              case measure => simp [intOf]; omega
            · obtain ⟨n, rfl⟩ : ∃ n : Nat, x = n := ⟨x.toNat, by omega⟩
              have b1 : ((n : Int) == -1) = false := beq_eq_false_iff_ne.2 (by omega)
              have b2 : ((n : Int) == -2) = false := beq_eq_false_iff_ne.2 (by omega)
              obtain ⟨d, BD, ed, DD⟩ := l14Dec_str n (by omega)
              have g1 := fun W => addB W s d (by omega)
              have hsl : Hid (slotL (n : Int) = Lib.decDigits n) := Lib.hid (by unfold slotL; rw [if_neg (by omega), if_neg (by omega), Int.toNat_natCast])
              clear e1 e2
              go_wp2_with fail
              refine (DD.out _).mono ?_
              rintro e w5 ⟨rfl, hb⟩
              have S5 := Sr.below hb
              clear hb
              go_wp2
              go_roundw
              case rel => exact ⟨0 + 1, _, by omega, rfl, by go_num, Lib.hid (by rw [preL_one hlt X.out, hsl.out]; exact app_bytes hs.out BD.out), by rw [ByteArray.size_append]; omega, S5⟩
              case measure => simp [intOf]; omega
        · have d0 : decide (0 < (k : Int)) = true := decide_eq_true (by omega)
          have g0 := fun W => addB W s ⟨#[32]⟩ (by rw [one_size]; omega)
          have hs2 : Hid ((s ++ ⟨#[32]⟩ : ByteArray).data.toList = preL T k ++ [32]) := Lib.hid (snoc_bytes hs.out 32)
          have hz2 : (s ++ ⟨#[32]⟩ : ByteArray).size = s.size + 1 := by rw [ByteArray.size_append, one_size]
          have HZ2 := Lib.hid hz2
          clear hz2
          by_cases e1 : x = -1
          · subst e1
            have g1 := fun W => addB W (s ++ ⟨#[32]⟩) ⟨#[46]⟩ (by rw [HZ2.out, one_size]; omega)
            go_wp2
            go_roundw
            case rel => exact ⟨k + 1, _, by omega, rfl, by go_num, Lib.hid (by rw [preL_succ (by omega) hlt X.out]; exact snoc_bytes hs2.out 46), by rw [ByteArray.size_append, HZ2.out, one_size]; omega, Sr⟩
            case measure => simp [intOf]; omega
          · by_cases e2 : x = -2
            · subst e2
              have g1 := fun W => addB W (s ++ ⟨#[32]⟩) ⟨#[120]⟩ (by rw [HZ2.out, one_size]; omega)
              go_wp2
              go_roundw
              case rel => exact ⟨k + 1, _, by omega, rfl, by go_num, Lib.hid (by rw [preL_succ (by omega) hlt X.out]; exact snoc_bytes hs2.out 120), by rw [ByteArray.size_append, HZ2.out, one_size]; omega, Sr⟩
              case measure => simp [intOf]; omega
            · obtain ⟨n, rfl⟩ : ∃ n : Nat, x = n := ⟨x.toNat, by omega⟩
              have b1 : ((n : Int) == -1) = false := beq_eq_false_iff_ne.2 (by omega)
              have b2 : ((n : Int) == -2) = false := beq_eq_false_iff_ne.2 (by omega)
              obtain ⟨d, BD, ed, DD⟩ := l14Dec_str n (by omega)
              have g1 := fun W => addB W (s ++ ⟨#[32]⟩) d (by rw [HZ2.out]; omega)
              have hsl : Hid (slotL (n : Int) = Lib.decDigits n) := Lib.hid (by unfold slotL; rw [if_neg (by omega), if_neg (by omega), Int.toNat_natCast])
              clear e1 e2
              go_wp2_with fail
              refine (DD.out _).mono ?_
              rintro e w5 ⟨rfl, hb⟩
              have S5 := Sr.below hb
              clear hb
              go_wp2
              go_roundw
              case rel => exact ⟨k + 1, _, by omega, rfl, by go_num, Lib.hid (by rw [preL_succ (by omega) hlt X.out, hsl.out]; exact app_bytes hs2.out BD.out), by rw [ByteArray.size_append, HZ2.out]; omega, S5⟩
              case measure => simp [intOf]; omega
      · obtain rfl : k = T.zs.length := by omega
        go_wp2
        go_ret
        exact ⟨by rw [show fmtOf T = preL T T.zs.length by simp [fmtOf, HV.out, fmtL]]; exact congrArg Ending.returned (str_of hs.out), Sr.old⟩

end Go.Proofs.YtojmjhojgfopaaaDoor

/-
  Texts: decimal numbers of the model.
-/
import Derived.Test.YtojmjhojgfopaaaDoorBase
import Derived.Lib.ItoaNum
import Derived.Lib.Join
import Derived.Laws.Concat
import Derived.Laws.IdiomStrings
namespace Go.Proofs.YtojmjhojgfopaaaDoor
open Go.RowKit

/-- A string out of its bytes. -/
abbrev str (l : List UInt8) : Value := .string ⟨l.toArray⟩

set_option maxHeartbeats 1000000 in
theorem conv_one (w : World) (x : Int) (k : Nat) (hx : x = k) (hk : k < 256) :
    (convert 44 9 (.slice (some ⟨w.heap.size, 0, none⟩) 1 1)).run Tryd.prog (w.alloc (.cells #[.int .u8 x] 5)) = .ok (str [UInt8.ofNat k]) (w.alloc (.cells #[.int .u8 x] 5)) := by
  refine run_convert_bytes_back (P := Tryd.prog) _ _ _ 5 ⟨w.heap.size, 0, none⟩ 1 [UInt8.ofNat k] Tryd.underlying44 Tryd.underlying5 Tryd.underlying9 ?_
  intro j hj
  simp only [List.length_cons, List.length_nil] at hj
  obtain rfl : j = 0 := by omega
  show (w.alloc _).cell? ⟨w.heap.size, 0 + 0, none⟩ = _
  rw [World.cell?_alloc_at _ _ _ _ rfl, hx]
  simp [UInt8.toNat_ofNat, Nat.mod_eq_of_lt hk]

theorem str_add (x y : List UInt8) : Value.string (⟨x.toArray⟩ ++ ⟨y.toArray⟩) = str (x ++ y) := by
  rw [ByteArray.mk_append_mk]

theorem add_lists (w : World) (x y : List UInt8) (hx : x.length ≤ 8388608) (hy : y.length ≤ 8388608) :
    (Op.stringOp .add ⟨x.toArray⟩ ⟨y.toArray⟩).run Tryd.prog w = .ok (str (x ++ y)) w := run_string_add_lists w x y (by omega) (by omega)

set_option maxHeartbeats 1000000 in
set_option maxRecDepth 100000 in
theorem l14Dec_any (n : Nat) (w : World) (hn : n ≤ 1000000) :
    Calls Tryd.prog 11 #[.int .i64 n] w fun e w' => e = .returned (str (Lib.decDigits n)) ∧ Below w.heap.size w w' := by
  have d1 : decide ((n : Int) < -9223372036854775807) = false := decide_eq_false (by omega)
  have d2 : decide ((n : Int) < 0) = false := decide_eq_false (by omega)
  go_enter Tryd.func11, Tryd.ntmps11
  go_wp2
  clear d1 d2
  go_loopw [0, 3] (fun a o wr => ∃ (m : Nat) (l : List UInt8), a = .int .i64 m ∧ o = str l ∧ m ≤ n ∧ Hid (Lib.decDigits n = Lib.decDigits m ++ l) ∧ l.length ≤ n - m ∧ Below w.heap.size w wr) (fun a _ _ => (intOf a).toNat)
  case atStart => exact ⟨n, [], rfl, rfl, Nat.le_refl _, Lib.hid (by simp), by simp, Below.refl _ _⟩
  case round =>
    obtain ⟨m, l, rfl, rfl, hm, hd, hl, hb⟩ := hrel
    by_cases h9 : 9 < m
    · have d1 : decide (9 < (m : Int)) = true := decide_eq_true (by omega)
      have hc := conv_one wr (48 + (m : Int) % 10) (48 + m % 10) (by omega) (by omega)
      have HD : Hid (Lib.decDigits m = Lib.decDigits (m / 10) ++ [UInt8.ofNat (48 + m % 10)]) := Lib.hid (by rw [Lib.decDigits, dif_neg (by omega)])
      generalize UInt8.ofNat (48 + m % 10) = d at hc HD
      have ha := fun w => add_lists w [d] l (by simp) (by omega)
      go_wp2
      go_roundw
      case rel => exact ⟨m / 10, d :: l, rfl, str_add [d] l, by omega, Lib.hid (by rw [hd.out, HD.out, List.append_assoc]; rfl), by simp; omega, hb.alloc hb.size _⟩
      case measure => simp [intOf]; omega
    · have d1 : decide (9 < (m : Int)) = false := decide_eq_false (by omega)
      have hc := conv_one wr (48 + (m : Int)) (48 + m) (by omega) (by omega)
      have HD : Hid (Lib.decDigits m = [UInt8.ofNat (48 + m)]) := Lib.hid (by rw [Lib.decDigits, dif_pos (by omega)])
      generalize UInt8.ofNat (48 + m) = d at hc HD
      have ha := fun w => add_lists w [d] l (by simp) (by omega)
      go_wp2
      go_ret
      exact ⟨by rw [hd.out, HD.out]; exact congrArg Ending.returned (str_add [d] l), hb.alloc hb.size _⟩

end Go.Proofs.YtojmjhojgfopaaaDoor

/-
  The text of a table, of the program.
-/
import Derived.Test.YtojmjhojgfopaaaDoorFmt
import Derived.Test.YtojmjhojgfopaaaDoorBase
import Derived.Test.YtojmjhojgfopaaaDoorShelf2
import Derived.OwnWalkIn
namespace Go.Proofs.YtojmjhojgfopaaaDoor
open Go.RowKit

theorem infoS : (Tryd.prog.info? 9).map (fun i => (i.zero, i.size, i.bytes)) = some (some (.string ByteArray.empty), 1, 16) := by kernel_rfl

/-- A decimal number below 100, its string under one name. -/
theorem Itoa_str (n : Nat) (h : n < 100) : ∃ b : ByteArray, Hid (b.data.toList = Lib.decDigits n) ∧ b.size ≤ 2 ∧ Hid (∀ W, Calls Tryd.prog 16 #[.int .i64 n] W fun e w' => e = .returned (.string b) ∧ W = w') :=
  ⟨⟨(Lib.decDigits n).toArray⟩, Lib.hid rfl, by simpa [ByteArray.size] using dec_len h, Lib.hid fun W => (Tryd.strconv_Itoa_small n h W).mono fun _ _ ⟨he, hw⟩ => ⟨he, hw.symm⟩⟩

/-- The text of a slot as a string. -/
def slotS (x : Int) : ByteArray := ⟨(slotL x).toArray⟩

set_option maxHeartbeats 1000000 in
theorem text_any (x : Int) (w : World) (h0 : -2 ≤ x) (h1 : x ≤ 99) :
    Calls Tryd.prog 30 #[.int .i64 x] w fun e w' => e = .returned (.string (slotS x)) ∧ w = w' := by
  by_cases e1 : x = -1
  · subst e1
    go_enter Tryd.func30, Tryd.ntmps30
    go_wp2
    go_ret
    exact ⟨rfl, rfl⟩
  · by_cases e2 : x = -2
    · subst e2
      go_enter Tryd.func30, Tryd.ntmps30
      go_wp2
      go_ret
      exact ⟨rfl, rfl⟩
    · obtain ⟨n, rfl⟩ : ∃ n : Nat, x = n := ⟨x.toNat, by omega⟩
      have b1 : ((n : Int) == -1) = false := beq_eq_false_iff_ne.2 (by omega)
      have b2 : ((n : Int) == -2) = false := beq_eq_false_iff_ne.2 (by omega)
      have hsl : Hid (slotS (n : Int) = ⟨(Lib.decDigits n).toArray⟩) := Lib.hid (by unfold slotS slotL; rw [if_neg (by omega), if_neg (by omega), Int.toNat_natCast])
      obtain ⟨d, BD, ed, DD⟩ := Itoa_str n (by omega)
      clear e1 e2
      go_enter Tryd.func30, Tryd.ntmps30
      go_wp2_with fail
      refine (DD.out _).mono ?_
      rintro e w5 ⟨rfl, rfl⟩
      go_wp2
      go_ret
      exact ⟨by rw [hsl.out]; exact congrArg Ending.returned (str_of BD.out), rfl⟩

theorem slotL_len {x : Int} (h0 : -2 ≤ x) (h1 : x ≤ 99) : (slotL x).length ≤ 2 := by
  unfold slotL
  split
  · simp
  · split
    · simp
    · exact dec_len (by omega)

theorem join_len {xs : List (List UInt8)} (h : ∀ x ∈ xs, x.length ≤ 2) : (Lib.join xs [32]).length ≤ 3 * xs.length := by
  cases xs with
  | nil => simp [Lib.join_nil]
  | cons x r =>
    have key : ∀ r : List (List UInt8), (∀ x ∈ r, x.length ≤ 2) → (Lib.joinTail [32] r).length ≤ 3 * r.length := by
      intro r hr
      induction r with
      | nil => simp [Lib.joinTail]
      | cons y r ih =>
        have h1 := hr y (List.mem_cons_self ..)
        have h2 := ih fun z hz => hr z (List.mem_cons_of_mem _ hz)
        simp only [Lib.joinTail, List.map_cons, List.flatten_cons, List.length_append, List.length_cons, List.length_nil] at h2 ⊢
        omega
    have h1 := h x (List.mem_cons_self ..)
    have h2 := key r fun z hz => h z (List.mem_cons_of_mem _ hz)
    rw [Lib.join_cons, List.length_append, List.length_cons]
    omega

theorem Join_row (base : Nat) (a : Option Addr) (m c : Nat) (xs : List ByteArray) (w : World) (hrow : w.ownsRow base 9 1 (.slice a m c) xs.length (xs.map Value.string)) (h1 : 1 ≤ xs.length) (hn : xs.length ≤ 1000)
    (hl : (Lib.join (xs.map (·.data.toList)) [32]).length ≤ 100000) :
    Calls Tryd.prog 31 #[.slice a xs.length c, .string ⟨#[32]⟩] w fun e w' => e = .returned (.string ⟨(Lib.join (xs.map (·.data.toList)) [32]).toArray⟩) ∧ Below w.heap.size w w' := by
  rcases hrow.2 with ⟨hv, h0⟩ | ⟨g, cap, cur, hv, hg, hh, h3, h4, h5, ht⟩
  · omega
  · cases hv
    refine Tryd.strings_Join g 0 c xs ⟨#[32]⟩ w (fun j x hj => ?_) (Array.getElem?_eq_some_iff.1 hh).1 (by omega) h3 (by show (Lib.join _ [32]).length ≤ _; omega)
    have hj' : j < xs.length := (List.getElem?_eq_some_iff.1 hj).1
    rw [Nat.zero_add]
    have h6 : (cur.toList.take (xs.length * 1))[j]? = (xs.map Value.string)[j]? := by rw [ht]
    rw [List.getElem?_take, if_pos (by omega), List.getElem?_map, hj, Array.getElem?_toList] at h6
    simp [World.cell?, hh, h6]

end Go.Proofs.YtojmjhojgfopaaaDoor

/-
  The law files' own conversions: sizes, and copies of slices and tables.
-/
import Derived.Test.YtfkdandmedojpaaFreeA
import Derived.Test.YtfkdandmedojpaaValid
namespace Go.Proofs.Ytfkdandmedojpaa
open Go.RowKit

set_option maxHeartbeats 400000 in
theorem szIntS_big (a : Option Addr) (n c : Nat) (m : Int) (w : World) (hn : n ≤ 9223372036854775807) (h0 : 0 ≤ m) (hm : m ≤ 1048576) (h : m < n) :
    Calls Try.prog 52 #[.slice a n c, .int .i64 m] w fun e w' => e = .returned (.int .i64 (-1)) ∧ w = w' := by
  have t : decide (m - (n : Int) < 0) = true := by simp; omega
  go_enter Try.func52, Try.ntmps52
  go_wp2
  go_ret
  exact ⟨rfl, rfl⟩

set_option maxHeartbeats 400000 in
theorem szIntS_ok (a : Option Addr) (n c : Nat) (m : Int) (w : World) (hm : m ≤ 1048576) (h : n ≤ m) :
    Calls Try.prog 52 #[.slice a n c, .int .i64 m] w fun e w' => e = .returned (.int .i64 (m - n)) ∧ w = w' := by
  have t : decide (m - (n : Int) < 0) = false := by simp; omega
  go_enter Try.func52, Try.ntmps52
  go_wp2
  go_ret
  exact ⟨rfl, rfl⟩

set_option maxHeartbeats 400000 in
theorem szTable_big (t p : Int) (a : Option Addr) (n c : Nat) (m : Int) (w : World) (hn : n ≤ 9223372036854775807) (h0 : 0 ≤ m) (hm : m ≤ 1048576) (h : m < n) :
    Calls Try.prog 23 #[.agg #[.int .i64 t, .int .i64 p, .slice a n c], .int .i64 m] w fun e w' => e = .returned (.int .i64 (-1)) ∧ Below w.heap.size w w' := by
  go_enter Try.func23, Try.ntmps23
  go_wp2_with fail
  refine (szIntS_big a n c m _ hn h0 hm h).mono ?_
  rintro e w' ⟨rfl, rfl⟩
  go_wp2
  go_ret
  exact ⟨rfl, (Below.refl _ _).alloc (Nat.le_refl _) _⟩

set_option maxHeartbeats 400000 in
theorem szTable_ok (t p : Int) (a : Option Addr) (n c : Nat) (m : Int) (w : World) (hm : m ≤ 1048576) (h : n ≤ m) :
    Calls Try.prog 23 #[.agg #[.int .i64 t, .int .i64 p, .slice a n c], .int .i64 m] w fun e w' => e = .returned (.int .i64 (m - n)) ∧ Below w.heap.size w w' := by
  have t1 : decide (m - (n : Int) < 0) = false := by simp; omega
  go_enter Try.func23, Try.ntmps23
  go_wp2_with fail
  refine (szIntS_ok a n c m _ hm h).mono ?_
  rintro e w' ⟨rfl, rfl⟩
  go_wp2
  go_ret
  exact ⟨rfl, (Below.refl _ _).alloc (Nat.le_refl _) _⟩

theorem rep_own (w : World) (n : Nat) : OwnInts (w.alloc (.cells (zeros n).toArray 3)) w.heap.size (some ⟨w.heap.size, 0, none⟩) (List.replicate n 0) :=
  ⟨fun p hp => by cases hp; exact ⟨Nat.le_refl _, by simp⟩, fun _ => ⟨w.heap.size, 0, rfl, cells_rep (heap_alloc_new w _)⟩⟩

theorem same_nth {xs ys : List Int} (hl : ys.length = xs.length) (h : ∀ i, i < xs.length → nth ys i = nth xs i) : ys = xs := by
  apply List.ext_getElem hl
  intro i h1 h2
  have := h i h2
  simpa [nth, List.getElem?_eq_getElem h1, List.getElem?_eq_getElem h2] using this
theorem set_nth {xs ys : List Int} {j : Nat} {x : Int} (hj : j < ys.length) (h : ∀ i, i < j → nth ys i = nth xs i) (hx : nth xs j = x) : ∀ i, i < j + 1 → nth (ys.set j x) i = nth xs i := by
  intro i hi
  by_cases e : i = j
  · subst e; simp [nth, hj]; simpa [nth] using hx.symm
  · rw [nth, List.getElem?_set, if_neg (by omega)]; exact h i (by omega)

set_option maxHeartbeats 400000 in
theorem toIntS_any (a : Option Addr) (c : Nat) (xs : List Int) (w : World) (hn : xs.length ≤ 1048576) (h1 : IntsAt w a xs) :
    Calls Try.prog 55 #[.slice a xs.length c] w fun e w' => ∃ a' c', e = .returned (.slice a' xs.length c') ∧ OwnInts w' w.heap.size a' xs ∧ Below w.heap.size w w' := by
  have hmk := mk_row xs.length (by omega)
  go_enter Try.func55, Try.ntmps55
  go_wp2
  clear hmk
  go_loopw [4] (fun i wr => ∃ (k : Nat) (ys : List Int), k ≤ xs.length ∧ i = .int .i64 k ∧ ys.length = xs.length ∧ OwnInts wr w.heap.size (some ⟨w.heap.size, 0, none⟩) ys ∧ (∀ i, i < k → nth ys i = nth xs i) ∧ Below w.heap.size w wr) (fun i _ => xs.length - (intOf i).toNat)
  case atStart => exact ⟨0, List.replicate xs.length 0, Nat.zero_le _, rfl, by simp, rep_own _ _, fun _ h => (by omega), (Below.refl _ _).alloc (Nat.le_refl _) _⟩
  case round =>
    obtain ⟨k, ys, hk, rfl, hl, ho, hz, hb⟩ := hrel
    have L := Lib.hid hl
    have Z := Lib.hid hz
    have O := Lib.hid ho
    by_cases hlt : k < xs.length
    · obtain ⟨b, o, x, rfl, q, X⟩ := (h1.below hb).at hlt
      obtain ⟨b', o', e, hc, hf⟩ := ho.2 (by omega)
      cases e
      have r1 := hc k (by omega)
      have r2 := hf k (by omega)
      have hkl : k < ys.length := by omega
      rw [Nat.zero_add] at r1 r2
      clear hl hz ho hc hf
      go_wp2
      go_roundw
      case rel => exact ⟨k + 1, ys.set k x, by omega, by go_num, by simp [L.out], by have := O.out.set k hkl x; rwa [Nat.zero_add] at this, set_nth hkl Z.out X.out, hb.setCell (by simp) _⟩
      case measure => simp [intOf]; omega
    · clear hl hz ho
      go_wp2
      go_ret
      have e : k = xs.length := by omega
      have hy : ys = xs := same_nth L.out (fun i hi => Z.out i (by omega))
      have ho := O.out
      rw [hy] at ho
      exact ⟨_, _, rfl, ho, hb⟩

set_option maxHeartbeats 1000000 in
theorem toTable_any (T : Tab) (a : Option Addr) (c : Nat) (w : World) (hn : T.zs.length ≤ 1048576) (h1 : IntsAt w a T.zs) :
    Calls Try.prog 25 #[tabV T a c] w fun e w' => ∃ a' c', e = .returned (tabV T a' c') ∧ OwnInts w' w.heap.size a' T.zs ∧ Below w.heap.size w w' := by
  have S1 := (((St.start w).read h1).alloc #[.int .i64 T.t, .int .i64 T.p, .slice a T.zs.length c] 38 |>.alloc #[.int .i64 0, .int .i64 0, .slice none 0 0] 25 |>.alloc #[.int .i64 T.t, .int .i64 T.p, .slice none 0 0] 25)
  simp only [World.size_alloc] at S1
  go_enter Try.func25, Try.ntmps25
  go_wp2_with fail
  refine (toIntS_any a c T.zs _ hn (by exact S1.reads 3 rfl)).mono ?_
  rintro e w1 ⟨a', c', rfl, ho, hb⟩
  have S2 := S1.below hb
  have O := Lib.hid (ho.mono (base' := w.heap.size + 1 + 1 + 1) (by simp))
  clear hb ho S1
  obtain ⟨x0, x1, x2, x3, x4, x5, xz⟩ := facts3 (S2.cells 0 rfl)
  obtain ⟨y0, y1, y2, y3, y4, y5, yz⟩ := facts3 (S2.cells 1 rfl)
  go_wp2
  refine bodyPost_ret (v := tabV T a' c') (by simp [results, Try.results25, go_sem, y0, y1, y2]) rfl ⟨a', c', rfl, ?_, ?_⟩
  · exact ((((O.out.setOther (p := ⟨w.heap.size + 1 + 1, 2, none⟩) (by simp) _).setOther (p := ⟨w.heap.size + 1, 0, none⟩) (by simp <;> omega) _).setOther (p := ⟨w.heap.size + 1, 1, none⟩) (by simp <;> omega) _).setOther (p := ⟨w.heap.size + 1, 2, none⟩) (by simp <;> omega) _).mono (by omega)
  · exact set3 (S2.old.setCell (by simp; omega) _) (by omega) _ _ _

end Go.Proofs.Ytfkdandmedojpaa

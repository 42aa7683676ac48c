/-
  What chapter 1 draws as arguments: DrawKeysIn, DrawNewTable, DrawHomeOf.
-/
import Derived.Test.YtlhbddjaioodkaaOpen
namespace Go.Proofs.Ytlhbddjaioodkaa
open Go.RowKit

/-- Bytes that came in, as lists. -/
structure Came (c : Nat) (code : List Int) : Prop where
  cap : code.length ≤ c
  cap2 : c ≤ 9223372036854775807
  byte : ∀ i, 0 ≤ nth code i ∧ nth code i ≤ 255

theorem Came.open {w0 w : World} {l : List It} {a : Option Addr} {c bh : Nat} {code : List Int} (S : St w0 w (It.bytes bh a code :: l)) (h : Came c code) :
    Calls Try.prog 46 #[.slice a code.length c] w fun e w' => ∃ r, e = .returned (.pointer (some ⟨r, 0, none⟩)) ∧ w.heap.size ≤ r ∧ CodeOk (code.take 2000) ∧
      Far (rd r a c (code.take 2000) 0) (It.bytes w.heap.size a (code.take 2000) :: l) ∧
      St w0 w' (rd r a c (code.take 2000) 0 :: It.bytes w.heap.size a (code.take 2000) :: l) := by
  have hN := (S.get 0 rfl : (It.bytes bh a code).P w)
  have hz : bh ≤ w.heap.size := (S.all _ (List.mem_cons_self ..)).1
  have hb : 0 < code.length → ∀ q, a = some q → q.block < w.heap.size := fun h0 q e => Nat.lt_of_lt_of_le (hN.2 h0 q e) hz
  have Sl : St w0 w l := S.turn fun i hi => List.mem_cons_of_mem _ hi
  refine (l14Open_any Sl a c code hN.1 hb h.cap h.cap2 h.byte).mono ?_
  rintro e w' ⟨r, rfl, hr, ok, S1⟩
  have S0 := Sl.add (It.bytes w.heap.size a (code.take 2000)) (Nat.le_refl _) ⟨hN.1.take 2000, fun h0 => hb (by simp at h0; omega)⟩
  exact ⟨r, rfl, hr, ok, Far.older S0 (fun _ hj => hj) hr, S1⟩

set_option maxHeartbeats 2000000 in
theorem DrawKeysIn_any {w0 w : World} {l : List It} {a : Option Addr} {c bh : Nat} {code : List Int} (S : St w0 w (It.bytes bh a code :: l)) (h : Came c code) :
    Calls Try.prog 24 #[.slice a code.length c] w fun e w' => ∃ (T : Tab) (a' : Option Addr) (c' lo hi : Nat), e = .returned (tabV T a' c') ∧ DrawnB T ∧ w.heap.size ≤ lo ∧
      St w0 w' (It.own lo hi a' T.zs :: l) := by
  have hz := S.size
  have Sl : St w0 w l := S.turn fun i hi => List.mem_cons_of_mem _ hi
  have FL : Hid (Far (It.box w.heap.size #[] 0) l) := Lib.hid (Far.older Sl (fun _ h => h) (Nat.le_refl _))
  have S0 := (S.alloc #[.int .i64 0, .int .i64 0, .slice none 0 0] 25).turn (l' := It.bytes bh a code :: It.box w.heap.size #[.int .i64 0, .int .i64 0, .slice none 0 0] 25 :: l) fun i hi => by
    simp only [List.mem_cons] at hi ⊢
    rcases hi with h | h | h
    · exact .inr (.inl h)
    · exact .inl h
    · exact .inr (.inr h)
  have C := Came.open S0 h
  have zA := w.size_alloc (.cells #[.int .i64 0, .int .i64 0, .slice none 0 0] 25)
  generalize code.length = n at C ⊢
  generalize code.take 2000 = cd at C
  go_enter Try.func24, Try.ntmps24
  go_wp2_with fail
  refine C.mono ?_
  rintro e w1 ⟨r, rfl, hr, ok, F, S1⟩
  have hr1 : r + 1 ≤ w1.heap.size := S1.sz 0 rfl
  go_wp2_with fail
  refine (l1Some_any S1 ok (by omega) F (by omega)).mono ?_
  rintro e w2 ⟨T, a', c', lo, p', rfl, hT, _, hlo, S2⟩
  obtain ⟨x0, x1, x2, x3, x4, x5, xz⟩ := facts3 (S2.cells 3 rfl)
  go_wp2
  refine bodyPost_ret (v := tabV T a' c') (by simp [results, Try.results24, go_sem, x0, x1, x2]) rfl ?_
  have S3 : St w0 w2 (It.own lo w2.heap.size a' T.zs :: l) := S2.turn fun i hi => by
    simp only [List.mem_cons] at hi ⊢
    rcases hi with h | h
    · exact .inl h
    · exact .inr (.inr (.inr (.inr h)))
  exact ⟨T, a', c', lo, _, rfl, hT, by omega, S3.set3Far ⟨.inr (by show w.heap.size + 1 ≤ lo; omega), FL.out⟩ hz _ _ _⟩

end Go.Proofs.Ytlhbddjaioodkaa

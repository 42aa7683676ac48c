/-
  What chapter 12 draws as arguments: a table and a slot.
-/
import Derived.Test.YtpncpeokdcolpaaDoorDraw2R
namespace Go.Proofs.YtpncpeokdcolpaaDoor
open Go.RowKit

set_option maxHeartbeats 2000000 in
theorem DrawMissAt_any {w0 w : World} {l : List It} {a : Option Addr} {c bh : Nat} {code : List Int} (S : St w0 w (It.bytes bh a code :: l)) (h : Came c code) :
    Calls Tryd.prog 4 #[.slice a code.length c] w fun e w' => ∃ (T : Tab) (a' : Option Addr) (c' lo hi : Nat) (x : Int), e = .returned (.tuple #[tabV T a' c', .int .i64 x]) ∧ DrawnB T ∧ (-1 ≤ x ∧ x ≤ 16) ∧ w.heap.size ≤ lo ∧
      St w0 w' (It.own lo hi a' T.zs :: l) := by
  have hz := S.size
  have Sl : St w0 w l := S.turn fun i hi => List.mem_cons_of_mem _ hi
  have FL : Hid (Far (It.box w.heap.size #[] 0) l) := Lib.hid (Far.older Sl (fun _ h => h) (Nat.le_refl _))
  have S0 := (S.alloc #[.int .i64 0, .int .i64 0, .slice none 0 0] 25).turn (l' := It.bytes bh a code :: It.box w.heap.size #[.int .i64 0, .int .i64 0, .slice none 0 0] 25 :: l) fun i hi => by
    simp only [List.mem_cons] at hi ⊢
    rcases hi with h | h | h
    · exact .inr (.inl h)
    · exact .inl h
    · exact .inr (.inr h)
  have C := DrawRunAt_any S0 h
  have zA := w.size_alloc (.cells #[.int .i64 0, .int .i64 0, .slice none 0 0] 25)
  generalize code.length = n at C ⊢
  go_enter Tryd.func4, Tryd.ntmps4
  go_wp2_with fail
  refine C.mono ?_
  rintro e w2 ⟨T, a', c', lo, hi2, x, rfl, hT, hx, hlo, S2⟩
  obtain ⟨x0, x1, x2, x3, x4, x5, xz⟩ := facts3 (S2.cells 1 rfl)
  go_wp2
  refine bodyPost_ret (v := .tuple #[tabV T a' c', .int .i64 x]) (by simp [results, Tryd.results4, go_sem, x0, x1, x2]) rfl ?_
  have S3 : St w0 w2 (It.own lo hi2 a' T.zs :: l) := S2.turn fun i hi => by
    simp only [List.mem_cons] at hi ⊢
    rcases hi with h | h
    · exact .inl h
    · exact .inr (.inr h)
  exact ⟨T, a', c', lo, _, x, rfl, hT, hx, by omega, S3.set3Far ⟨.inr (by show w.heap.size + 1 ≤ lo; omega), FL.out⟩ hz _ _ _⟩

end Go.Proofs.YtpncpeokdcolpaaDoor

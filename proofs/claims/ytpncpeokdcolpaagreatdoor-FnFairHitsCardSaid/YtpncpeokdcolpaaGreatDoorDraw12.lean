/-
  What chapter 12 draws as arguments.
-/
import Derived.Test.YtpncpeokdcolpaaGreatDoorDraws2All
import Derived.Test.YtpncpeokdcolpaaGreatDoorDraw2R
namespace Go.Proofs.YtpncpeokdcolpaaGreatDoor
open Go.RowKit
set_option maxHeartbeats 4000000 in
theorem DrawHitVisits_any {w0 w : World} {l : List It} {a : Option Addr} {c bh : Nat} {code : List Int} (S : St w0 w (It.bytes bh a code :: l)) (h : Came c code) :
    Calls Tryz.prog 27 #[.slice a code.length c] w fun e w' => ∃ (T : Tab) (a' : Option Addr) (c' lo hi : Nat), e = .returned (tabV T a' c') ∧ DrawnB T ∧ w.heap.size ≤ lo ∧
      St w0 w' (It.own lo hi a' T.zs :: l) := by
  have hz := S.size
  have Sl : St w0 w l := S.turn fun i hi => List.mem_cons_of_mem _ hi
  have FL : Hid (Far (It.box w.heap.size #[] 0) l) := Lib.hid (Far.older Sl (fun _ h => h) (Nat.le_refl _))
  have S0 := (S.alloc #[.int .i64 0, .int .i64 0, .slice none 0 0] 27).turn (l' := It.bytes bh a code :: It.box w.heap.size #[.int .i64 0, .int .i64 0, .slice none 0 0] 27 :: l) fun i hi => by
    simp only [List.mem_cons] at hi ⊢
    rcases hi with h | h | h
    · exact .inr (.inl h)
    · exact .inl h
    · exact .inr (.inr h)
  have C := Came.open S0 h
  have zA := w.size_alloc (.cells #[.int .i64 0, .int .i64 0, .slice none 0 0] 27)
  generalize code.length = n at C ⊢
  generalize code.take 2000 = cd at C
  go_enter Tryz.func27, Tryz.ntmps27
  go_wp2_with fail
  refine C.mono ?_
  rintro e w1 ⟨r, rfl, hr, ok, F, S1⟩
  have hr1 : r + 1 ≤ w1.heap.size := S1.sz 0 rfl
  go_wp2_with fail
  refine (l2Some_any S1 ok (by omega) F (by omega)).mono ?_
  rintro e w3 ⟨T, a', c', lo, hi2, p', rfl, hT, hp', hlo, S3⟩
  obtain ⟨x0, x1, x2, x3, x4, x5, xz⟩ := facts3 (S3.cells 3 rfl)
  go_wp2
  refine bodyPost_ret (v := tabV T a' c') (by simp [results, Tryz.results27, go_sem, x0, x1, x2]) rfl ?_
  have S4 := S3.turn (l' := It.own lo _ a' T.zs :: l) fun i hi => by
    simp only [List.mem_cons] at hi ⊢
    rcases hi with h | h
    · exact .inl h
    · exact .inr (.inr (.inr (.inr h)))
  exact ⟨T, a', c', lo, _, rfl, hT, by omega, S4.set3Far ⟨.inr (by show w.heap.size + 1 ≤ lo; omega), FL.out⟩ hz _ _ _⟩

end Go.Proofs.YtpncpeokdcolpaaGreatDoor

/-
  What chapter 2's draws make: l2Some.
-/
import Derived.Test.YtpncpeokdcolpaaMade
import Derived.Test.YtpncpeokdcolpaaBase
namespace Go.Proofs.Ytpncpeokdcolpaa
open Go.RowKit

set_option maxHeartbeats 2000000 in
set_option maxRecDepth 100000 in
theorem l2Some_any {w0 w : World} {l : List It} {r bh : Nat} {a : Option Addr} {c p : Nat} {code : List Int} (S : St w0 w (rd r a c code p :: It.bytes bh a code :: l)) (ho : CodeOk code) (hr : w0.heap.size ≤ r) (hf : Far (rd r a c code p) (It.bytes bh a code :: l)) (hp : p ≤ 500000) :
    Calls Try.prog 47 #[.pointer (some ⟨r, 0, none⟩)] w fun e w' => ∃ (T : Tab) (a' : Option Addr) (c' lo hi p' : Nat), e = .returned (tabV T a' c') ∧ DrawnB T ∧
      p' ≤ p + 3000 ∧ w.heap.size + 1 ≤ lo ∧ St w0 w' (It.own lo hi a' T.zs :: rd r a c code p' :: It.bytes bh a code :: l) := by
  have hrs : r + 1 ≤ w.heap.size := S.sz 0 rfl
  have hbh : bh ≤ w.heap.size := S.sz 1 rfl
  have hz := S.size
  have FL : Hid (∀ i : It, w.heap.size ≤ i.lo → Far i l) := Lib.hid fun i h => Far.older S (fun j hj => List.mem_cons_of_mem _ (List.mem_cons_of_mem _ hj)) h
  have S1 := (S.alloc #[.int .i64 0, .int .i64 0, .slice none 0 0] 27).push
  have F1 := hf.push (p' := p) (x := It.box w.heap.size #[.int .i64 0, .int .i64 0, .slice none 0 0] 27) (.inl hrs)
  have DONE : Hid (∀ (w3 : World) (T : Tab) (a' : Option Addr) (c' lo p' : Nat), DrawnB T → p' ≤ p + 3000 → w.heap.size + 1 ≤ lo →
      St w0 w3 (It.own lo w3.heap.size a' T.zs :: rd r a c code p' :: It.bytes bh a code :: It.box w.heap.size #[.int .i64 0, .int .i64 0, .slice none 0 0] 27 :: l) →
      ∃ (T2 : Tab) (a2 : Option Addr) (c2 lo hi p' : Nat), Ending.returned (tabV T a' c') = .returned (tabV T2 a2 c2) ∧ DrawnB T2 ∧ p' ≤ p + 3000 ∧ w.heap.size + 1 ≤ lo ∧
        St w0 (((w3.setCell ⟨w.heap.size, 0, none⟩ (.int .i64 T.t)).setCell ⟨w.heap.size, 1, none⟩ (.int .i64 T.p)).setCell ⟨w.heap.size, 2, none⟩ (.slice a' T.zs.length c')) (It.own lo hi a2 T2.zs :: rd r a c code p' :: It.bytes bh a code :: l)) := Lib.hid (by
    intro w3 T a' c' lo p' hT hp' hlo S3
    have S4 : St w0 w3 (It.own lo w3.heap.size a' T.zs :: rd r a c code p' :: It.bytes bh a code :: l) := S3.turn fun i hi => by
      simp only [List.mem_cons] at hi ⊢
      rcases hi with h | h | h | h
      · exact .inl h
      · exact .inr (.inl h)
      · exact .inr (.inr (.inl h))
      · exact .inr (.inr (.inr (.inr h)))
    exact ⟨T, a', c', lo, _, p', rfl, hT, hp', hlo, S4.set3Far ⟨.inr (by show w.heap.size + 1 ≤ lo; omega), .inl hrs, .inl hbh, FL.out _ (Nat.le_refl _)⟩ hz _ _ _⟩)
  go_enter Try.func47, Try.ntmps47
  go_wp2_with fail
  refine (pick_any S1 ho hr F1 5 (by omega) (by omega) (by omega)).mono ?_
  rintro e w2 ⟨k, k0, k1, rfl, S2⟩
  have z2 : w.heap.size + 1 ≤ w2.heap.size := S2.sz 2 rfl
  cases e0 : (k == 0)
  · go_wp2_with fail
    refine (l2Made_any S2 ho hr (Far.same F1 _) (by omega)).mono ?_
    rintro e w3 ⟨T, a', c', lo, p', rfl, hT, hp', hlo, S3⟩
    obtain ⟨x0, x1, x2, x3, x4, x5, xz⟩ := facts3 (S3.cells 3 rfl)
    go_wp2
    refine bodyPost_ret (v := tabV T a' c') (by simp [results, Try.results47, go_sem, x0, x1, x2]) rfl ?_
    exact DONE.out w3 T a' c' lo p' hT (by omega) (by omega) S3
  · go_wp2_with fail
    refine (l1Some_any S2 ho hr (Far.same F1 _) (by omega)).mono ?_
    rintro e w3 ⟨T, a', c', lo, p', rfl, hT, hp', hlo, S3⟩
    obtain ⟨x0, x1, x2, x3, x4, x5, xz⟩ := facts3 (S3.cells 3 rfl)
    go_wp2
    refine bodyPost_ret (v := tabV T a' c') (by simp [results, Try.results47, go_sem, x0, x1, x2]) rfl ?_
    exact DONE.out w3 T a' c' lo p' hT (by omega) (by omega) S3

end Go.Proofs.Ytpncpeokdcolpaa

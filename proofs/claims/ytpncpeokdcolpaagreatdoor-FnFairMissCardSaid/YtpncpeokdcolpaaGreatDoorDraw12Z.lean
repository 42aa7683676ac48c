/-
  What chapter 12 draws as arguments: a fair table and a home; a table and a key.
-/
import Derived.Test.YtpncpeokdcolpaaGreatDoorDraws2All
import Derived.Test.YtpncpeokdcolpaaGreatDoorBase
namespace Go.Proofs.YtpncpeokdcolpaaGreatDoor
open Go.RowKit

set_option maxHeartbeats 4000000 in
theorem DrawFairMiss_any {w0 w : World} {l : List It} {a : Option Addr} {c bh : Nat} {code : List Int} (S : St w0 w (It.bytes bh a code :: l)) (h : Came c code) :
    Calls Tryz.prog 13 #[.slice a code.length c] w fun e w' => ∃ (T : Tab) (a' : Option Addr) (c' lo hi : Nat) (x : Int), e = .returned (.tuple #[tabV T a' c', .int .i64 x]) ∧ DrawnB T ∧ (-1 ≤ x ∧ x ≤ 16) ∧ w.heap.size ≤ lo ∧
      St w0 w' (It.own lo hi a' T.zs :: l) := by
  have hz := S.size
  have Sl : St w0 w l := S.turn fun i hi => List.mem_cons_of_mem _ hi
  have FL : Hid (Far (It.box w.heap.size #[] 0) l) := Lib.hid (Far.older Sl (fun _ h => h) (Nat.le_refl _))
  have S0 := (S.alloc #[.int .i64 0, .int .i64 0, .slice none 0 0] 27).turn (l' := It.bytes bh a code :: It.box w.heap.size #[.int .i64 0, .int .i64 0, .slice none 0 0] 27 :: l) fun i hi => by
    simp only [List.mem_cons] at hi ⊢
    rcases hi with h | h | h
    · exact .inr (.inl h)
    · exact .inl h
    · exact .inr (.inr h)
  have C := Came.open S0 h
  have zA := w.size_alloc (.cells #[.int .i64 0, .int .i64 0, .slice none 0 0] 27)
  generalize code.length = n at C ⊢
  generalize code.take 2000 = cd at C
  go_enter Tryz.func13, Tryz.ntmps13
  go_wp2_with fail
  refine C.mono ?_
  rintro e w1 ⟨r, rfl, hr, ok, F, S1⟩
  have hr1 : r + 1 ≤ w1.heap.size := S1.sz 0 rfl
  go_wp2_with fail
  refine (l6Some_any S1 ok (by omega) F (by omega)).mono ?_
  rintro e w2 ⟨T, a', c', lo, hi2, p', rfl, hT, hp', hlo, S2⟩
  have zB : r + 1 ≤ w2.heap.size := S2.sz 1 rfl
  have zC : w.heap.size + 1 ≤ w2.heap.size := S2.sz 3 rfl
  have S4 : St w0 (w2.alloc (.cells #[.int .i64 T.t, .int .i64 T.p, .slice a' T.zs.length c'] 27)) (rd r a c cd p' :: It.bytes (w.alloc (.cells #[.int .i64 0, .int .i64 0, .slice none 0 0] 27)).heap.size a cd :: It.own lo hi2 a' T.zs :: It.box w2.heap.size #[.int .i64 T.t, .int .i64 T.p, .slice a' T.zs.length c'] 27 :: It.box w.heap.size #[.int .i64 0, .int .i64 0, .slice none 0 0] 27 :: l) :=
    (S2.alloc #[.int .i64 T.t, .int .i64 T.p, .slice a' T.zs.length c'] 27).turn fun i hi => by
      simp only [List.mem_cons] at hi ⊢
      rcases hi with h | h | h | h | h
      · exact .inr (.inr (.inl h))
      · exact .inr (.inr (.inr (.inl h)))
      · exact .inr (.inl h)
      · exact .inl h
      · exact .inr (.inr (.inr (.inr h)))
  have F4 : Far (rd r a c cd p') (It.bytes (w.alloc (.cells #[.int .i64 0, .int .i64 0, .slice none 0 0] 27)).heap.size a cd :: It.own lo hi2 a' T.zs :: It.box w2.heap.size #[.int .i64 T.t, .int .i64 T.p, .slice a' T.zs.length c'] 27 :: It.box w.heap.size #[.int .i64 0, .int .i64 0, .slice none 0 0] 27 :: l) :=
    ⟨F.1, .inr (by show r + 1 ≤ lo; omega), .inr (by show r + 1 ≤ w2.heap.size; omega), Far.same F.2 p'⟩
  obtain ⟨n1, n2⟩ := hT.len
  have S5 := S4.drew
  obtain ⟨x0, x1, x2, x3, x4, x5, xz⟩ := facts3 (S4.cells 3 rfl)
  obtain ⟨y0, y1, y2, y3, y4, y5, yz⟩ := facts3 (S2.cells 3 rfl)
  go_wp2_with fail
  go_region_held3 (fun w' => w'.cell? ⟨w2.heap.size, 0, none⟩ = some (.int .i64 T.t) ∧ w'.cell? ⟨w2.heap.size, 1, none⟩ = some (.int .i64 T.p) ∧ w'.cell? ⟨w2.heap.size, 2, none⟩ = some (.slice a' T.zs.length c'))
    (first
      | exact ⟨x0, x1, x2⟩
      | exact S6.three 3 rfl
      | exact S7.three 3 rfl
      | exact S8.three 4 rfl
      | exact S9.three 4 rfl
      | exact keep_set3 (by omega) (S9.three 4 rfl))
    (first
      | (go_at_call 52; refine (pick_any S5 ok (by omega) F4 _ (by omega) (by omega) (by omega)).mono ?_; rintro e w3 ⟨k1, k10, k11, rfl, S6⟩; clear S5)
      | (go_at_call 52; refine (pick_any S6 ok (by omega) (Far.same F4 _) _ (by omega) (by omega) (by omega)).mono ?_; rintro e w4 ⟨k2, k20, k21, rfl, S7⟩; clear S6; have hr4 : r + 1 ≤ w4.heap.size := S7.sz 0 rfl; have S8 := (S7.lit [k1, 0, 1, k2, -1, 16] 3).push; simp only [List.map_cons, List.map_nil] at S8; have F8 := (Far.same F4 (p' + 1 + 1)).push (p' := p' + 1 + 1) (x := It.own w4.heap.size (w4.heap.size + 1) (some ⟨w4.heap.size, 0, none⟩) [k1, 0, 1, k2, -1, 16]) (.inl hr4))
      | (go_at_call 51; refine (num_any S8 ok (by omega) F8 0 6 _ _ _ 6 _ rfl rfl (by simp) (by simp) (by omega)).mono ?_; rintro e w5 ⟨j, hj, rfl, S9⟩; obtain ⟨z0, z1, z2, z3, z4, z5, zz⟩ := facts3 (S9.cells 5 rfl); have hb := nth_all (P := fun x => -1 ≤ x ∧ x ≤ 16) (xs := [k1, 0, 1, k2, -1, 16]) (by intro x hx; simp at hx; omega) hj; generalize nth [k1, 0, 1, k2, -1, 16] j = x at hb ⊢))
  have S10 : St w0 w5 (It.own lo hi2 a' T.zs :: l) := S9.turn fun i hi => by
    simp only [List.mem_cons] at hi ⊢
    rcases hi with h | h
    · exact .inr (.inr (.inr (.inl h)))
    · exact .inr (.inr (.inr (.inr (.inr (.inr h)))))
  have S11 := S10.set3Far (b := w.heap.size) ⟨.inr (by show w.heap.size + 1 ≤ lo; omega), FL.out⟩ hz (.int .i64 T.t) (.int .i64 T.p) (.slice a' T.zs.length c')
  clear x0 x1 x2 x3 x4 x5 xz y0 y1 y2 y3 y4 y5 yz
  go_wp2
  refine bodyPost_ret (v := .tuple #[tabV T a' c', .int .i64 x]) (by simp [results, Tryz.results13, go_sem, z0, z1, z2]) rfl ?_
  exact ⟨T, a', c', lo, _, x, rfl, hT, hb, by omega, S11⟩

set_option maxHeartbeats 2000000 in
theorem DrawPutVisits_any {w0 w : World} {l : List It} {a : Option Addr} {c bh : Nat} {code : List Int} (S : St w0 w (It.bytes bh a code :: l)) (h : Came c code) :
    Calls Tryz.prog 19 #[.slice a code.length c] w fun e w' => ∃ (T : Tab) (a' : Option Addr) (c' lo hi : Nat) (x : Int), e = .returned (.tuple #[tabV T a' c', .int .i64 x]) ∧ DrawnB T ∧ (-1 ≤ x ∧ x ≤ 100) ∧ w.heap.size ≤ lo ∧
      St w0 w' (It.own lo hi a' T.zs :: l) := by
  have hz := S.size
  have Sl : St w0 w l := S.turn fun i hi => List.mem_cons_of_mem _ hi
  have FL : Hid (Far (It.box w.heap.size #[] 0) l) := Lib.hid (Far.older Sl (fun _ h => h) (Nat.le_refl _))
  have S0 := (S.alloc #[.int .i64 0, .int .i64 0, .slice none 0 0] 27).turn (l' := It.bytes bh a code :: It.box w.heap.size #[.int .i64 0, .int .i64 0, .slice none 0 0] 27 :: l) fun i hi => by
    simp only [List.mem_cons] at hi ⊢
    rcases hi with h | h | h
    · exact .inr (.inl h)
    · exact .inl h
    · exact .inr (.inr h)
  have C := Came.open S0 h
  have zA := w.size_alloc (.cells #[.int .i64 0, .int .i64 0, .slice none 0 0] 27)
  generalize code.length = n at C ⊢
  generalize code.take 2000 = cd at C
  go_enter Tryz.func19, Tryz.ntmps19
  go_wp2_with fail
  refine C.mono ?_
  rintro e w1 ⟨r, rfl, hr, ok, F, S1⟩
  have hr1 : r + 1 ≤ w1.heap.size := S1.sz 0 rfl
  go_wp2_with fail
  refine (l2Draw_any S1 ok (by omega) F (by omega)).mono ?_
  rintro e w2 ⟨T, a', c', lo, hi2, x, rfl, hT, hx, hlo, S2⟩
  obtain ⟨x0, x1, x2, x3, x4, x5, xz⟩ := facts3 (S2.cells 1 rfl)
  go_wp2
  refine bodyPost_ret (v := .tuple #[tabV T a' c', .int .i64 x]) (by simp [results, Tryz.results19, go_sem, x0, x1, x2]) rfl ?_
  have S3 : St w0 w2 (It.own lo hi2 a' T.zs :: l) := S2.turn fun i hi => by
    simp only [List.mem_cons] at hi ⊢
    rcases hi with h | h
    · exact .inl h
    · exact .inr (.inr h)
  exact ⟨T, a', c', lo, _, x, rfl, hT, hx, by omega, S3.set3Far ⟨.inr (by show w.heap.size + 1 ≤ lo; omega), FL.out⟩ hz _ _ _⟩

end Go.Proofs.YtpncpeokdcolpaaGreatDoor

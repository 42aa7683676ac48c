/-
  What chapter 4 draws as arguments: DrawDropAll.
-/
import Derived.Test.YtpbffdjiijpigaaGreatDoorL2Draw
import Derived.Test.YtpbffdjiijpigaaGreatDoorBase
namespace Go.Proofs.YtpbffdjiijpigaaGreatDoor
open Go.RowKit

theorem setCell_at3 {w : World} {b : Nat} {x y z : Value} {t : TypeId} (h : w.heap[b]? = some (.cells #[x, y, z] t (0, 0))) (x' y' z' : Value) :
    (((w.setCell ⟨b, 0, none⟩ x').setCell ⟨b, 1, none⟩ y').setCell ⟨b, 2, none⟩ z').heap[b]? = some (.cells #[x', y', z'] t (0, 0)) := by
  simp [World.setCell, Array.getElem?_modify, h]

set_option maxHeartbeats 4000000 in
set_option maxRecDepth 100000 in
theorem DrawDropAll_any {w0 w : World} {l : List It} {a : Option Addr} {c bh : Nat} {code : List Int} (S : St w0 w (It.bytes bh a code :: l)) (h : Came c code) :
    Calls Tryz.prog 20 #[.slice a code.length c] w fun e w' => ∃ (T : Tab) (a' : Option Addr) (c' lo hi : Nat) (ks : List Int) (a2 : Option Addr) (c2 lo2 hi2 : Nat), e = .returned (.tuple #[tabV T a' c', .slice a2 ks.length c2]) ∧ DrawnB T ∧ ks.length ≤ 10 ∧ (∀ x, x ∈ ks → -1 ≤ x ∧ x ≤ 100) ∧ w.heap.size ≤ lo ∧
      St w0 w' (It.own lo2 hi2 a2 ks :: It.own lo hi a' T.zs :: l) := by
  obtain ⟨i0, hi, hz0, hz1, hz2⟩ := info_parts Tryz.info3
  have HI := Lib.hid hi; have HZ0 := Lib.hid hz0; have HZ1 := Lib.hid hz1; have HZ2 := Lib.hid hz2
  clear hi hz0 hz1 hz2
  have hz := S.size
  have Sl : St w0 w l := S.turn fun i hi => List.mem_cons_of_mem _ hi
  have FL : Hid (Far (It.box w.heap.size #[] 0) l) := Lib.hid (Far.older Sl (fun _ h => h) (Nat.le_refl _))
  have hl : ∀ j ∈ l, j.hi ≤ w.heap.size := fun j hj => (Sl.all j hj).1
  have HL := Lib.hid hl
  clear hl
  have S0 := (S.alloc #[.int .i64 0, .int .i64 0, .slice none 0 0] 25).turn (l' := It.bytes bh a code :: It.box w.heap.size #[.int .i64 0, .int .i64 0, .slice none 0 0] 25 :: l) fun i hi => by
    simp only [List.mem_cons] at hi ⊢
    rcases hi with h | h | h
    · exact .inr (.inl h)
    · exact .inl h
    · exact .inr (.inr h)
  have C := Came.open S0 h
  have zA := w.size_alloc (.cells #[.int .i64 0, .int .i64 0, .slice none 0 0] 25)
  obtain ⟨BH, hBH⟩ : ∃ BH, (w.alloc (.cells #[.int .i64 0, .int .i64 0, .slice none 0 0] 25)).heap.size = BH := ⟨_, rfl⟩
  rw [hBH] at C zA
  clear hBH
  generalize code.length = n at C ⊢
  generalize code.take 2000 = cd at C
  go_enter Tryz.func20, Tryz.ntmps20
  go_wp2_with fail
  refine C.mono ?_
  rintro e w1 ⟨r, rfl, hr, ok, F, S1⟩
  have hr1 : r + 1 ≤ w1.heap.size := S1.sz 0 rfl
  go_wp2_with fail
  refine (l2Some_any S1 ok (by omega) F (by omega)).mono ?_
  rintro e w2 ⟨T, a', c', lo, hi2, p', rfl, hT, hp', hlo, S2⟩
  have zB : r + 1 ≤ w2.heap.size := S2.sz 1 rfl
  have zb : BH ≤ w2.heap.size := S2.sz 2 rfl
  have zC : w.heap.size + 1 ≤ w2.heap.size := S2.sz 3 rfl
  have zD : hi2 ≤ w2.heap.size := S2.sz 0 rfl
  obtain ⟨n1, n2⟩ := hT.len
  have S4 : St w0 ((w2.alloc (.cells #[.int .i64 T.t, .int .i64 T.p, .slice a' T.zs.length c'] 25)).alloc (.cells #[] 3)) (rd r a c cd p' :: It.bytes BH a cd :: It.own lo hi2 a' T.zs :: It.box w2.heap.size #[.int .i64 T.t, .int .i64 T.p, .slice a' T.zs.length c'] 25 :: It.box w.heap.size #[.int .i64 0, .int .i64 0, .slice none 0 0] 25 :: l) :=
    ((S2.alloc #[.int .i64 T.t, .int .i64 T.p, .slice a' T.zs.length c'] 25).turn fun i hi => by
      simp only [List.mem_cons] at hi ⊢
      rcases hi with h | h | h | h | h
      · exact .inr (.inr (.inl h))
      · exact .inr (.inr (.inr (.inl h)))
      · exact .inr (.inl h)
      · exact .inl h
      · exact .inr (.inr (.inr (.inr h)))).below ((Below.refl _ _).alloc (Nat.le_refl _) _)
  have F4 : Far (rd r a c cd p') (It.bytes BH a cd :: It.own lo hi2 a' T.zs :: It.box w2.heap.size #[.int .i64 T.t, .int .i64 T.p, .slice a' T.zs.length c'] 25 :: It.box w.heap.size #[.int .i64 0, .int .i64 0, .slice none 0 0] 25 :: l) :=
    ⟨F.1, .inr (by show r + 1 ≤ lo; omega), .inr (by show r + 1 ≤ w2.heap.size; omega), Far.same F.2 p'⟩
  have hrs := row_start (w2.alloc (.cells #[.int .i64 T.t, .int .i64 T.p, .slice a' T.zs.length c'] 25))
  have S5 := (S4.add (It.row (w2.heap.size + 1) (w2.heap.size + 1 + 1) (.slice (some ⟨w2.heap.size + 1, 0, none⟩) 0 0) []) (by simp [It.row]) ⟨by simpa using hrs, fun k e => by cases e; simp⟩).push
  have F5 := F4.push (p' := p') (x := It.row (w2.heap.size + 1) (w2.heap.size + 1 + 1) (.slice (some ⟨w2.heap.size + 1, 0, none⟩) 0 0) []) (.inl (by show r + 1 ≤ w2.heap.size + 1; omega))
  have S6 := (S5.lit [3, 1, 6, 0, 10] 3).push
  simp only [List.map_cons, List.map_nil, World.size_alloc] at S6
  have F6 := F5.push (p' := p') (x := It.own (w2.heap.size + 1 + 1) (w2.heap.size + 1 + 1 + 1) (some ⟨w2.heap.size + 1 + 1, 0, none⟩) [3, 1, 6, 0, 10]) (.inl (by show r + 1 ≤ w2.heap.size + 1 + 1; omega))
  clear hrs S4 S5 S1 S2
  go_wp2_with fail
  refine (num_any S6 ok (by omega) F6 0 5 _ _ _ 5 _ rfl rfl (by simp) (by simp) (by omega)).mono ?_
  rintro e w3 ⟨i, hi, rfl, S7⟩
  obtain ⟨m, hm, hm0⟩ : ∃ m : Nat, nth [3, 1, 6, 0, 10] i = m ∧ m ≤ 10 := by
    obtain ⟨b1, b2⟩ := nth_all (P := fun x => 0 ≤ x ∧ x ≤ 10) (xs := [3, 1, 6, 0, 10]) (by decide) hi
    exact ⟨(nth [3, 1, 6, 0, 10] i).toNat, by omega, by omega⟩
  rw [hm]
  clear hm hi
  have S8 : St w0 w3 (rd r a c cd (p' + 1) :: It.bytes BH a cd :: It.row (w2.heap.size + 1) (w2.heap.size + 1 + 1) (.slice (some ⟨w2.heap.size + 1, 0, none⟩) 0 0) [] :: It.own lo hi2 a' T.zs :: It.box w2.heap.size #[.int .i64 T.t, .int .i64 T.p, .slice a' T.zs.length c'] 25 :: It.box w.heap.size #[.int .i64 0, .int .i64 0, .slice none 0 0] 25 :: l) := S7.turn fun j hj => by
    simp only [List.mem_cons] at hj ⊢
    rcases hj with h | h | h | h
    · exact .inl h
    · exact .inr (.inl h)
    · exact .inr (.inr (.inr (.inl h)))
    · exact .inr (.inr (.inr (.inr h)))
  clear S6 S7 F6 F5
  go_wp2_with fail
  go_loopw [6, 15] (fun x y wr => ∃ (j : Nat) (v : Value) (xs : List Int) (q hi' : Nat), j ≤ m ∧ y = .int .i64 j ∧ x = v ∧ Hid (xs.length = j) ∧ Hid (∀ x, x ∈ xs → -1 ≤ x ∧ x ≤ 100) ∧ q ≤ p' + 1 + 10 * j ∧
      St w0 wr (rd r a c cd q :: It.bytes BH a cd :: It.row (w2.heap.size + 1) hi' v xs :: It.own lo hi2 a' T.zs :: It.box w2.heap.size #[.int .i64 T.t, .int .i64 T.p, .slice a' T.zs.length c'] 25 :: It.box w.heap.size #[.int .i64 0, .int .i64 0, .slice none 0 0] 25 :: l)) (fun _ y _ => m - (intOf y).toNat)
  case atStart => exact ⟨0, _, [], _, _, Nat.zero_le _, rfl, rfl, rfl, Lib.hid (fun _ h => by cases h), Nat.le_refl _, S8⟩
  case round =>
    obtain ⟨j, v, xs, q, hi', hj, rfl, hxv, X, K, hq, Sr⟩ := hrel
    replace hxv := hxv.symm
    subst hxv
    clear S8
    have hxl : xs.length ≤ m := by rw [X.out]; exact hj
    by_cases hlt : j < m
    · obtain ⟨x0, x1, x2, x3, x4, x5, xz⟩ := facts3 (Sr.cells 4 rfl)
      have F7 : Far (rd r a c cd q) (It.bytes BH a cd :: It.row (w2.heap.size + 1) hi' v xs :: It.own lo hi2 a' T.zs :: It.box w2.heap.size #[.int .i64 T.t, .int .i64 T.p, .slice a' T.zs.length c'] 25 :: It.box w.heap.size #[.int .i64 0, .int .i64 0, .slice none 0 0] 25 :: l) := ⟨F4.1, .inr (by show r + 1 ≤ w2.heap.size + 1; omega), (Far.same F4.2 q)⟩
      go_wp2_with fail
      clear x0 x1 x2 x3 x4 x5 xz
      refine (l1Word_any Sr ok (by omega) F7 (by omega) T a' c' 1 lo hi2 rfl (by omega)).mono ?_
      rintro e w4 ⟨x, q', rfl, y0, y1, hq', S9⟩
      have hown := S9.rows 2 rfl
      have z9 : w2.heap.size + 1 ≤ w4.heap.size := S9.sz 4 rfl
      go_wp2_with (at_builtin; refine wpList_append_own _ rfl _ _ 23 rfl (w2.heap.size + 1) 3 i0 (.int .i64 0) 1 8 Tryz.underlying23 HI.out HZ0.out HZ1.out HZ2.out rfl (by decide) _ _ _ rfl (hown.alloc _) ⟨w4.heap.size, 0, none⟩ 1 1 [.int .i64 x] rfl rfl (cell_one_new _ _ _) (by simp [Value.oneCell']) (by unfold maxLen; omega) (by omega) (by simp; omega) ?_)
      intro v' w5 hown5 hgrow5 _
      obtain ⟨g', cap', rfl⟩ := ownsRow_more hown5
      have F8 := fun v => (show Far (It.row (w2.heap.size + 1) hi' v xs) (rd r a c cd q' :: It.bytes BH a cd :: It.own lo hi2 a' T.zs :: It.box w2.heap.size #[.int .i64 T.t, .int .i64 T.p, .slice a' T.zs.length c'] 25 :: It.box w.heap.size #[.int .i64 0, .int .i64 0, .slice none 0 0] 25 :: l) from
        ⟨.inl (by show r + 1 ≤ w2.heap.size + 1; omega), .inl (by show BH ≤ w2.heap.size + 1; omega), .inl (by show hi2 ≤ w2.heap.size + 1; omega), .inl (Nat.le_refl _), .inl (by show w.heap.size + 1 ≤ w2.heap.size + 1; omega), by
          have : ∀ ll : List It, (∀ j ∈ ll, j.hi ≤ w.heap.size) → Far (It.row (w2.heap.size + 1) hi' v xs) ll := by
            intro ll
            induction ll with
            | nil => exact fun _ => trivial
            | cons i ll ih => exact fun hh => ⟨.inl (by have := hh i (List.mem_cons_self ..); show i.hi ≤ w2.heap.size + 1; omega), ih fun j hj => hh j (List.mem_cons_of_mem _ hj)⟩
          exact this l HL.out⟩)
      have S10 := (S9.pull.append (F8 _) (by omega) _ hown5 hgrow5).push
      have X2 : Hid ((xs ++ [x]).length = j + 1) := Lib.hid (by rw [List.length_append, X.out]; rfl)
      have K2 : Hid (∀ y, y ∈ xs ++ [x] → -1 ≤ y ∧ y ≤ 100) := Lib.hid fun y hy => by
        rcases List.mem_append.1 hy with h | h
        · exact K.out y h
        · obtain rfl := List.mem_singleton.1 h; exact ⟨y0, y1⟩
      clear hown5 hgrow5 hown Sr S9 F8 F7
      go_wp2
      go_roundw
      case rel => exact ⟨j + 1, _, xs ++ [x], q', w5.heap.size, by omega, by go_num, rfl, X2, K2, by omega, S10⟩
      case measure => simp [intOf]; omega
    · obtain rfl : j = m := by omega
      obtain ⟨a5, c5, rfl⟩ := ownsRow_slice (Sr.rows 2 rfl)
      have O2 := Lib.hid (ownsRow_ints (Sr.rows 2 rfl))
      obtain ⟨x0, x1, x2, x3, x4, x5, xz⟩ := facts3 (Sr.cells 4 rfl)
      obtain ⟨y0, y1, y2, y3, y4, y5, yz⟩ := facts3 (Sr.cells 5 rfl)
      have S11 : St w0 wr (It.own (w2.heap.size + 1) wr.heap.size a5 xs :: It.own lo hi2 a' T.zs :: It.box w.heap.size #[.int .i64 0, .int .i64 0, .slice none 0 0] 25 :: l) := (Sr.own O2.out).turn fun k hk => by
        simp only [List.mem_cons] at hk ⊢
        rcases hk with h | h | h | h
        · exact .inl h
        · exact .inr (.inr (.inr (.inr (.inl h))))
        · exact .inr (.inr (.inr (.inr (.inr (.inr (.inl h))))))
        · exact .inr (.inr (.inr (.inr (.inr (.inr (.inr h))))))
      have S12 : St w0 wr (It.own (w2.heap.size + 1) wr.heap.size a5 xs :: It.own lo hi2 a' T.zs :: l) := S11.turn fun k hk => by
        simp only [List.mem_cons] at hk ⊢
        rcases hk with h | h | h
        · exact .inl h
        · exact .inr (.inl h)
        · exact .inr (.inr (.inr h))
      have S13 := S12.set3Far (b := w.heap.size) ⟨.inr (by show w.heap.size + 1 ≤ w2.heap.size + 1; omega), .inr (by show w.heap.size + 1 ≤ lo; omega), FL.out⟩ hz (.int .i64 T.t) (.int .i64 T.p) (.slice a' T.zs.length c')
      obtain ⟨z0, z1, z2, z3, z4, z5, zz⟩ := facts3 (setCell_at3 (Sr.cells 5 rfl) (.int .i64 T.t) (.int .i64 T.p) (.slice a' T.zs.length c'))
      go_wp2
      refine bodyPost_ret (v := .tuple #[tabV T a' c', .slice a5 xs.length c5]) (by simp [results, Tryz.results20, go_sem, z0, z1, z2]) rfl ?_
      exact ⟨T, a', c', lo, _, xs, a5, c5, _, _, rfl, hT, by rw [X.out]; omega, K.out, by omega, S13⟩

end Go.Proofs.YtpbffdjiijpigaaGreatDoor

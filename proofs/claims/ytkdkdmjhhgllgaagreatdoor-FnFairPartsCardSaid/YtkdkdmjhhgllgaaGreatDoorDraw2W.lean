/-
  l1Keys with its row.
-/
import Derived.Test.YtkdkdmjhhgllgaaGreatDoorDraw2
namespace Go.Proofs.YtkdkdmjhhgllgaaGreatDoor
open Go.RowKit

set_option maxHeartbeats 2000000 in
set_option maxRecDepth 100000 in
theorem l1KeysRow_any {w0 w : World} {l : List It} {r bh : Nat} {a : Option Addr} {c p : Nat} {code : List Int} (S : St w0 w (rd r a c code p :: It.bytes bh a code :: l)) (ho : CodeOk code) (hr : w0.heap.size ≤ r) (hf : Far (rd r a c code p) (It.bytes bh a code :: l)) (hp : p ≤ 800000) (n : Nat) (hn : n ≤ 100) :
    Calls Tryz.prog 17 #[.pointer (some ⟨r, 0, none⟩), .int .i64 n] w fun e w' => ∃ (xs : List Int) (a' : Option Addr) (c' : Nat) (lo hi p' : Nat), e = .returned (.slice a' xs.length c') ∧ xs.length ≤ n ∧ KeysB xs ∧ p' ≤ p + 300 ∧ w.heap.size ≤ lo ∧ lo < hi ∧
      St w0 w' (It.row lo hi (.slice a' xs.length c') xs :: rd r a c code p' :: It.bytes bh a code :: l) := by
  have hrs := (S.all _ (List.mem_cons_self ..)).1
  simp only [It.box] at hrs
  obtain ⟨i0, hi, hz0, hz1, hz2⟩ := info_parts Tryz.info3
  have S1 := (S.below ((Below.refl _ w).alloc (Nat.le_refl _) (.cells #[] 3))).add (It.row w.heap.size (w.heap.size + 1) (.slice (some ⟨w.heap.size, 0, none⟩) 0 0) []) (by simp [It.row]) ⟨row_start w, fun k e => by cases e; simp⟩ |>.push.lit [1, 7, 10, 5, 8] 3 |>.push
  simp only [List.map_cons, List.map_nil, World.size_alloc] at S1
  have F1 := (hf.push (p' := p) (x := It.row w.heap.size (w.heap.size + 1) (.slice (some ⟨w.heap.size, 0, none⟩) 0 0) []) (.inl hrs)).push (p' := p) (x := It.own (w.heap.size + 1) (w.heap.size + 1 + 1) (some ⟨w.heap.size + 1, 0, none⟩) [1, 7, 10, 5, 8]) (.inl (by simp [It.own]; omega))
  have HI := Lib.hid hi; have HZ0 := Lib.hid hz0; have HZ1 := Lib.hid hz1; have HZ2 := Lib.hid hz2
  clear hi hz0 hz1 hz2
  go_enter Tryz.func17, Tryz.ntmps17
  go_wp2_with fail
  refine (num_any S1 ho hr F1 0 5 _ _ _ 5 _ rfl rfl (by simp) (by simp) (by omega)).mono ?_
  rintro e w1 ⟨i, hi, rfl, S2⟩
  obtain ⟨b1, b2⟩ := nth_all (P := fun x => 1 ≤ x ∧ x ≤ 10) (xs := [1, 7, 10, 5, 8]) (by decide) hi
  generalize nth [1, 7, 10, 5, 8] i = step at b1 b2 ⊢
  clear hi
  go_wp2_with fail
  refine (pick_any S2 ho hr (Far.same F1 _) 40 (by omega) (by omega) (by omega)).mono ?_
  rintro e w2 ⟨k, k0, k1, rfl, S3⟩
  have S4 : St w0 w2 (rd r a c code (p + 1 + 1) :: It.bytes _ a code :: It.row w.heap.size (w.heap.size + 1) (.slice (some ⟨w.heap.size, 0, none⟩) 0 0) [] :: l) := S3.turn fun j hj => by
    simp only [List.mem_cons] at hj ⊢
    rcases hj with h | h | h | h
    · exact .inl h
    · exact .inr (.inl h)
    · exact .inr (.inr (.inr (.inl h)))
    · exact .inr (.inr (.inr (.inr h)))
  clear S1 S2 S3
  have hl : ∀ j ∈ l, j.hi ≤ w.heap.size := fun j hj => (S.all j (List.mem_cons_of_mem _ (List.mem_cons_of_mem _ hj))).1
  have FL : Hid (∀ (h' : Nat) (v : Value) (xs : List Int), Far (It.row w.heap.size h' v xs) l) := Lib.hid fun h' v xs => Far.older S (fun j hj => List.mem_cons_of_mem _ (List.mem_cons_of_mem _ hj)) (Nat.le_refl _)
  have hbh : (It.bytes bh a code).hi ≤ w.heap.size := S.sz 1 rfl
  clear hl
  go_wp2_with fail
  go_loopw [5, 7, 15] (fun x y z wr => ∃ (j : Nat) (kk : Int) (v : Value) (xs : List Int) (p' hi' : Nat), j ≤ n ∧ z = .int .i64 j ∧ y = .int .i64 kk ∧ x = v ∧ (0 ≤ kk ∧ kk ≤ 99) ∧ xs.length = j ∧ KeysB xs ∧ p' ≤ p + 2 + 2 * j ∧ w.heap.size < hi' ∧
      St w0 wr (rd r a c code p' :: It.bytes _ a code :: It.row w.heap.size hi' v xs :: l)) (fun _ _ z _ => n - (intOf z).toNat)
  case atStart => exact ⟨0, k, _, [], p + 1 + 1, _, Nat.zero_le _, rfl, rfl, rfl, ⟨k0, by omega⟩, rfl, fun _ h => (by cases h), by omega, Nat.lt_succ_self _, S4⟩
  case round =>
    obtain ⟨j, kk, v, xs, p', hi', hj, rfl, rfl, rfl, ⟨c0, c1⟩, hx, hk, hp', hz, Sr⟩ := hrel
    have X := Lib.hid hx
    have K := Lib.hid hk
    have hzr : w.heap.size < wr.heap.size := Nat.lt_of_lt_of_le hz (Sr.sz 2 rfl)
    clear hx hk S4
    have hxl : xs.length ≤ n := by rw [X.out]; exact hj
    by_cases hlt : j < n
    · have hown := Sr.rows 2 rfl
      go_wp2_with (at_builtin; refine wpList_append_own _ rfl _ _ 23 rfl w.heap.size 3 i0 (.int .i64 0) 1 8 Tryz.underlying23 HI.out HZ0.out HZ1.out HZ2.out rfl (by decide) _ _ _ rfl (hown.alloc _) ⟨wr.heap.size, 0, none⟩ 1 1 [.int .i64 kk] rfl rfl (cell_one_new _ _ _) (by simp [Value.oneCell']) (by unfold maxLen; omega) (by omega) (by simp; omega) ?_)
      intro v' w5 hown5 hgrow5 _
      obtain ⟨g', cap', rfl⟩ := ownsRow_more hown5
      have F5 := fun v => (show Far (It.row w.heap.size hi' v xs) (rd r a c code p' :: It.bytes _ a code :: l) from ⟨.inl hrs, .inl hbh, FL.out _ _ _⟩)
      have S5 := (Sr.pull.append (F5 _) (by omega) _ hown5 hgrow5).push
      have z5 : w.heap.size < w5.heap.size := by have := hgrow5.size; simp at this; omega
      have F6 : Far (rd r a c code p') (It.bytes _ a code :: It.row w.heap.size w5.heap.size (.slice (some ⟨g', 0, none⟩) (xs.length + 1) cap') (xs ++ [kk]) :: l) := Far.same (hf.push (p' := p) (.inl hrs)) p'
      have K2 := Lib.hid (K.out.snoc c0 c1)
      clear hown5 hgrow5 hown Sr
      go_wp2_with fail
      refine (pick_any S5 ho hr F6 3 (by omega) (by omega) (by omega)).mono ?_
      rintro e w6 ⟨k6, k60, k61, rfl, S6⟩
      cases he : (k6 == 0)
      · go_wp2
        go_roundw
        case rel =>
          have hx := X.out
          refine ⟨j + 1, _, _, xs ++ [kk], p' + 1, w5.heap.size, by omega, by go_num, rfl, rfl, ?_, by simp [hx], K2.out, by omega, z5, S6⟩
          have h1 := Int.emod_nonneg (kk + step) (show (100 : Int) ≠ 0 by omega)
          have h2 := Int.emod_lt_of_pos (kk + step) (show (0 : Int) < 100 by omega)
          omega
        case measure => simp [intOf]; omega
      · go_wp2_with fail
        refine (pick_any S6 ho hr (Far.same F6 _) 100 (by omega) (by omega) (by omega)).mono ?_
        rintro e w7 ⟨k7, k70, k71, rfl, S7⟩
        go_wp2
        go_roundw
        case rel =>
          have hx := X.out
          exact ⟨j + 1, k7, _, xs ++ [kk], p' + 1 + 1, w5.heap.size, by omega, by go_num, rfl, rfl, ⟨k70, by omega⟩, by simp [hx], K2.out, by omega, z5, S7⟩
        case measure => simp [intOf]; omega
    · obtain ⟨a', c', rfl⟩ := ownsRow_slice (Sr.rows 2 rfl)
      go_wp2
      go_ret
      have e : j = n := by omega
      have hx := X.out
      refine ⟨xs, a', c', w.heap.size, hi', p', rfl, by omega, K.out, by omega, Nat.le_refl _, hz, Sr.turn ?_⟩
      intro k hk
      simp only [List.mem_cons] at hk ⊢
      rcases hk with h | h | h | h
      · exact .inr (.inr (.inl h))
      · exact .inl h
      · exact .inr (.inl h)
      · exact .inr (.inr (.inr h))

end Go.Proofs.YtkdkdmjhhgllgaaGreatDoor

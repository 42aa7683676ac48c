/-
  What chapter 1's draws make: l1Word, DrawHomeOf.
-/
import Derived.Test.YtpbffdjiijpigaaGreatDoorDraw4
namespace Go.Proofs.YtpbffdjiijpigaaGreatDoor
open Go.RowKit

set_option maxHeartbeats 4000000 in
set_option maxRecDepth 100000 in
theorem l1Word_any {w0 w : World} {l : List It} {r bh : Nat} {a : Option Addr} {c p : Nat} {code : List Int} (S : St w0 w (rd r a c code p :: It.bytes bh a code :: l)) (ho : CodeOk code) (hr : w0.heap.size ≤ r) (hf : Far (rd r a c code p) (It.bytes bh a code :: l)) (hp : p ≤ 900000)
    (T : Tab) (a' : Option Addr) (c' k lo hi : Nat) (hk : l[k]? = some (It.own lo hi a' T.zs)) (hn : T.zs.length ≤ 100) :
    Calls Tryz.prog 72 #[.pointer (some ⟨r, 0, none⟩), tabV T a' c'] w fun e w' => ∃ (x : Int) (p' : Nat), e = .returned (.int .i64 x) ∧ -1 ≤ x ∧ x ≤ 100 ∧ p' ≤ p + 10 ∧ St w0 w' (rd r a c code p' :: It.bytes bh a code :: l) := by
  have hrs : r + 1 ≤ w.heap.size := S.sz 0 rfl
  have S1 := (S.alloc #[.int .i64 T.t, .int .i64 T.p, .slice a' T.zs.length c'] 25).push
  have F1 := hf.push (p' := p) (x := It.box w.heap.size #[.int .i64 T.t, .int .i64 T.p, .slice a' T.zs.length c'] 25) (.inl hrs)
  go_enter Tryz.func72, Tryz.ntmps72
  go_wp2_with fail
  refine (l1Sort_any a' c' T.zs _ (by omega) (by exact S1.ints (k + 3) hk)).mono ?_
  rintro e w1 ⟨a1, c1, rfl, ho1, hb1⟩
  have S2 := ((S1.below hb1).own ho1).push
  have z1 : w.heap.size + 1 ≤ w1.heap.size := by have := hb1.size; simpa using this
  have F2 : ∀ p', Far (rd r a c code p') (It.bytes bh a code :: It.own (w.heap.size + 1) w1.heap.size a1 (sortU T.zs) :: It.box w.heap.size #[.int .i64 T.t, .int .i64 T.p, .slice a' T.zs.length c'] 25 :: l) := fun p' =>
    Far.same (F1.push (p' := p) (x := It.own (w.heap.size + 1) w1.heap.size a1 (sortU T.zs)) (.inl (by show r + 1 ≤ w.heap.size + 1; omega))) p'
  rw [World.size_alloc] at S2
  have hks : (sortU T.zs).length ≤ 100 := sortTo_len _ 100
  have KS : Hid (∀ x ∈ sortU T.zs, 0 ≤ x ∧ x ≤ 99) := Lib.hid fun x hx => by
    obtain ⟨k, hk, rfl, _⟩ := mem_sortTo.1 hx
    omega
  clear ho1 hb1
  by_cases h0 : (sortU T.zs).length = 0
  · have t0 : decide (0 < ((sortU T.zs).length : Int)) = false := decide_eq_false (by omega)
    have t1 : decide (0 < (sortU T.zs).length) = false := decide_eq_false (by omega)
    have H0 := Lib.hid h0
    clear h0
    go_wp2_with fail
    refine (pick_any S2 ho hr (F2 _) 100 (by omega) (by omega) (by omega)).mono ?_
    rintro e w5 ⟨u, u0, u1, rfl, S5⟩
    go_wp2_with fail
    refine (pick_any S5 ho hr (F2 _) 20 (by omega) (by omega) (by omega)).mono ?_
    rintro e w6 ⟨v, v0, v1, rfl, S6⟩
    have z6 : r + 1 ≤ w6.heap.size := S6.sz 0 rfl
    have S7 := (S6.lit [u, v, 0, 99, 100, -1] 3).push
    simp only [List.map_cons, List.map_nil] at S7
    have F7 := (F2 (p + 1 + 1)).push (p' := p + 1 + 1) (x := It.own w6.heap.size (w6.heap.size + 1) (some ⟨w6.heap.size, 0, none⟩) [u, v, 0, 99, 100, -1]) (.inl z6)
    go_wp2_with fail
    refine (num_any S7 ho hr F7 0 6 _ _ _ 6 _ rfl rfl (by simp) (by simp) (by omega)).mono ?_
    rintro e w8 ⟨j, hj, rfl, S8⟩
    have hb := nth_all (P := fun x => -1 ≤ x ∧ x ≤ 100) (xs := [u, v, 0, 99, 100, -1]) (by intro x hx; simp at hx; omega) hj
    generalize nth [u, v, 0, 99, 100, -1] j = x at hb ⊢
    obtain ⟨b1, b2⟩ := hb
    go_wp2
    go_ret
    exact ⟨x, p + 1 + 1 + 1, rfl, b1, b2, by omega, S8.turn fun i hi => by
      simp only [List.mem_cons] at hi ⊢
      rcases hi with h | h | h
      · exact .inl h
      · exact .inr (.inl h)
      · exact .inr (.inr (.inr (.inr (.inr h))))⟩
  · have t0 : decide (0 < ((sortU T.zs).length : Int)) = true := decide_eq_true (by omega)
    have t1 : decide (0 < (sortU T.zs).length) = true := decide_eq_true (by omega)
    go_wp2_with fail
    refine (pick_any S2 ho hr (F2 _) 2 (by omega) (by omega) (by omega)).mono ?_
    rintro e w3 ⟨k2, k20, k21, rfl, S3⟩
    cases he : (k2 == 0)
    · go_wp2_with fail
      refine (pick_any S3 ho hr (F2 _) 100 (by omega) (by omega) (by omega)).mono ?_
      rintro e w5 ⟨u, u0, u1, rfl, S5⟩
      go_wp2_with fail
      refine (pick_any S5 ho hr (F2 _) 20 (by omega) (by omega) (by omega)).mono ?_
      rintro e w6 ⟨v, v0, v1, rfl, S6⟩
      have z6 : r + 1 ≤ w6.heap.size := S6.sz 0 rfl
      have S7 := (S6.lit [u, v, 0, 99, 100, -1] 3).push
      simp only [List.map_cons, List.map_nil] at S7
      have F7 := (F2 ((p + 1) + 1 + 1)).push (p' := (p + 1) + 1 + 1) (x := It.own w6.heap.size (w6.heap.size + 1) (some ⟨w6.heap.size, 0, none⟩) [u, v, 0, 99, 100, -1]) (.inl z6)
      go_wp2_with fail
      refine (num_any S7 ho hr F7 0 6 _ _ _ 6 _ rfl rfl (by simp) (by simp) (by omega)).mono ?_
      rintro e w8 ⟨j, hj, rfl, S8⟩
      have hb := nth_all (P := fun x => -1 ≤ x ∧ x ≤ 100) (xs := [u, v, 0, 99, 100, -1]) (by intro x hx; simp at hx; omega) hj
      generalize nth [u, v, 0, 99, 100, -1] j = x at hb ⊢
      obtain ⟨b1, b2⟩ := hb
      go_wp2
      go_ret
      exact ⟨x, (p + 1) + 1 + 1 + 1, rfl, b1, b2, by omega, S8.turn fun i hi => by
        simp only [List.mem_cons] at hi ⊢
        rcases hi with h | h | h
        · exact .inl h
        · exact .inr (.inl h)
        · exact .inr (.inr (.inr (.inr (.inr h))))⟩
    · go_wp2_with fail
      refine (pick_any S3 ho hr (F2 _) _ (by omega) (by omega) (by omega)).mono ?_
      rintro e w4 ⟨i, i0, i1, rfl, S4⟩
      obtain ⟨i, rfl⟩ : ∃ m : Nat, i = m := ⟨i.toNat, by omega⟩
      have hi : i < (sortU T.zs).length := by omega
      obtain ⟨b, o, x, rfl, q, X⟩ := (S4.ints 2 rfl).at hi
      have hx := KS.out x (by rw [← X.out]; exact nth_all (P := fun x => x ∈ sortU T.zs) (fun _ h => h) hi)
      obtain ⟨hx0, hx1⟩ := hx
      go_wp2
      go_ret
      exact ⟨x, p + 1 + 1, rfl, by omega, by omega, by omega, S4.turn fun i hi => by
        simp only [List.mem_cons] at hi ⊢
        rcases hi with h | h | h
        · exact .inl h
        · exact .inr (.inl h)
        · exact .inr (.inr (.inr (.inr h)))⟩

end Go.Proofs.YtpbffdjiijpigaaGreatDoor

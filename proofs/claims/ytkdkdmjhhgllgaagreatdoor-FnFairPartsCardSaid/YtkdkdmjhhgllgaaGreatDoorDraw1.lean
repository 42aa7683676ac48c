/-
  What chapter 1's draws make: num, l1Empty.
-/
import Derived.Test.YtkdkdmjhhgllgaaGreatDoorPick
import Derived.Test.YtkdkdmjhhgllgaaGreatDoorBase
namespace Go.Proofs.YtkdkdmjhhgllgaaGreatDoor
open Go.RowKit

set_option maxHeartbeats 400000 in
theorem num_any {w0 w : World} {l : List It} {r hi : Nat} {a : Option Addr} {c p : Nat} {code : List Int} (S : St w0 w (rd r a c code p :: It.bytes hi a code :: l)) (ho : CodeOk code) (hr : w0.heap.size ≤ r) (hf : Far (rd r a c code p) (It.bytes hi a code :: l))
    (m n lo' hi' : Nat) (a' : Option Addr) (c' : Nat) (xs : List Int) (hm : l[m]? = some (It.own lo' hi' a' xs)) (hn : n = xs.length) (h1 : 1 ≤ xs.length) (h2 : xs.length ≤ 1000) (hp : p ≤ 1000000) :
    Calls Tryz.prog 18 #[.pointer (some ⟨r, 0, none⟩), .slice a' n c'] w fun e w' => ∃ i : Nat, i < xs.length ∧ e = .returned (.int .i64 (nth xs i)) ∧ St w0 w' (rd r a c code (p + 1) :: It.bytes hi a code :: l) := by
  subst hn
  go_enter Tryz.func18, Tryz.ntmps18
  go_wp2_with fail
  refine (pick_any S ho hr hf _ (by omega) (by omega) hp).mono ?_
  rintro e w' ⟨k, k0, k1, rfl, S1⟩
  obtain ⟨i, rfl⟩ : ∃ i : Nat, k = i := ⟨k.toNat, by omega⟩
  have hi : i < xs.length := by omega
  obtain ⟨b, o, x, rfl, q, X⟩ := (S1.ints (m + 2) hm).at hi
  go_wp2
  go_ret
  exact ⟨i, hi, ret_int X.out.symm, S1⟩

/-- A block of integers reads as a slice. -/
theorem ints_of_box {w : World} {b : Nat} {t : TypeId} (xs : List Int) (h : w.heap[b]? = some (.cells (xs.map (Value.int .i64)).toArray t (0, 0))) : OwnInts w b (some ⟨b, 0, none⟩) xs :=
  ⟨fun p hp => by cases hp; exact ⟨Nat.le_refl _, (Array.getElem?_eq_some_iff.1 h).1⟩, fun _ => ⟨b, 0, rfl, fun j hj => by simp [World.cell?, h, hj], fun j _ => by simp [World.frozen?, h]⟩⟩

/-- A slice literal that has just been made. -/
theorem St.lit {w0 w : World} {l : List It} (h : St w0 w l) (xs : List Int) (t : TypeId) : St w0 (w.alloc (.cells (xs.map (Value.int .i64)).toArray t)) (It.own w.heap.size (w.heap.size + 1) (some ⟨w.heap.size, 0, none⟩) xs :: l) :=
  (h.below ((Below.refl _ _).alloc (Nat.le_refl _) _)).add _ (by simp [It.own]) ⟨ints_of_box xs (heap_alloc_new w _), fun p hp => by cases hp; simp⟩

theorem Far.add {i j : It} {l : List It} (h : Far i l) (h1 : j.hi ≤ i.lo ∨ i.hi ≤ j.lo) : Far i (j :: l) := ⟨h1, h⟩

theorem nth_all {xs : List Int} {P : Int → Prop} (h : ∀ x ∈ xs, P x) {i : Nat} (hi : i < xs.length) : P (nth xs i) := by
  rw [nth, List.getElem?_eq_getElem hi]
  exact h _ (List.getElem_mem hi)

theorem St.sz {w0 w : World} {l : List It} (h : St w0 w l) (n : Nat) {i : It} (hi : l[n]? = some i) : i.hi ≤ w.heap.size := (h.all i (List.mem_of_getElem? hi)).1

/-- What lay there before a block was made is far from it. -/
theorem Far.older {w0 w : World} {l l' : List It} (S : St w0 w l) {i : It} (hl : ∀ j ∈ l', j ∈ l) (hi : w.heap.size ≤ i.lo) : Far i l' := by
  induction l' with
  | nil => trivial
  | cons j l' ih => exact ⟨.inl (Nat.le_trans (S.all j (hl j (List.mem_cons_self ..))).1 hi), ih fun k hk => hl k (List.mem_cons_of_mem _ hk)⟩

theorem St.set3Far {w0 w : World} {l : List It} {b : Nat} (h : St w0 w l) (hf : Far (It.box b #[] 0) l) (hlo : w0.heap.size ≤ b) (x y z : Value) :
    St w0 (((w.setCell ⟨b, 0, none⟩ x).setCell ⟨b, 1, none⟩ y).setCell ⟨b, 2, none⟩ z) l :=
  ((h.setFar (p := ⟨b, 0, none⟩) hf hlo x).setFar (p := ⟨b, 1, none⟩) hf hlo y).setFar (p := ⟨b, 2, none⟩) hf hlo z

theorem St.push {w0 w : World} {x i j : It} {l : List It} (h : St w0 w (x :: i :: j :: l)) : St w0 w (i :: j :: x :: l) :=
  h.turn fun k hk => by
    simp only [List.mem_cons] at hk ⊢
    rcases hk with h | h | h | h
    · exact .inr (.inl h)
    · exact .inr (.inr (.inl h))
    · exact .inl h
    · exact .inr (.inr (.inr h))

theorem Far.same {r : Nat} {a : Option Addr} {c p : Nat} {code : List Int} {l : List It} (hf : Far (rd r a c code p) l) (p' : Nat) : Far (rd r a c code p') l := by
  induction l with
  | nil => trivial
  | cons j l ih => exact ⟨hf.1, ih hf.2⟩

/-- An item behind the reader is far from it. -/
theorem Far.push {r : Nat} {a : Option Addr} {c p p' : Nat} {code : List Int} {x j : It} {l : List It} (hf : Far (rd r a c code p) (j :: l)) (hx : r + 1 ≤ x.lo ∨ x.hi ≤ r) : Far (rd r a c code p') (j :: x :: l) :=
  ⟨hf.1, hx.elim .inr .inl, Far.same hf.2 p'⟩

/-- A row of integers that is appended to: its blocks lie from lo on. -/
def It.row (lo hi : Nat) (v : Value) (xs : List Int) : It where
  lo := lo
  hi := hi
  P := fun w => w.ownsRow lo 3 1 v xs.length (xs.map (Value.int .i64)) ∧ ∀ k, v.ownBlock = some k → k < hi
  loc := fun w w' _ _ h hp => by
    refine ⟨⟨hp.1.1, ?_⟩, hp.2⟩
    rcases hp.1.2 with hn | ⟨g, cap, cur, rfl, hb, hg, rest⟩
    · exact .inl hn
    · exact .inr ⟨g, cap, cur, rfl, hb, (h g hb (hp.2 g rfl)).trans hg, rest⟩

theorem St.rows {w0 w : World} {l : List It} {lo hi : Nat} {v : Value} {xs : List Int} (h : St w0 w l) (n : Nat) (hi' : l[n]? = some (It.row lo hi v xs)) : w.ownsRow lo 3 1 v xs.length (xs.map (Value.int .i64)) := (h.get n hi').1

set_option maxHeartbeats 1000000 in
theorem l1Empty_any {w0 w : World} {l : List It} {r hi : Nat} {a : Option Addr} {c p : Nat} {code : List Int} (S : St w0 w (rd r a c code p :: It.bytes hi a code :: l)) (ho : CodeOk code) (hr : w0.heap.size ≤ r) (hf : Far (rd r a c code p) (It.bytes hi a code :: l)) (hp : p ≤ 900000) :
    Calls Tryz.prog 15 #[.pointer (some ⟨r, 0, none⟩)] w fun e w' => ∃ (n : Nat) (t q : Int) (a' : Option Addr) (c' : Nat) (lo : Nat), e = .returned (tbl t q a' n c') ∧ 1 ≤ n ∧ n ≤ 16 ∧ (0 ≤ t ∧ t ≤ 7) ∧ (0 ≤ q ∧ q ≤ 11) ∧
      w.heap.size ≤ lo ∧ St w0 w' (It.row lo w'.heap.size (.slice a' n c') (List.replicate n (-1)) :: rd r a c code (p + 3) :: It.bytes hi a code :: l) := by
  have hrs := (S.all _ (List.mem_cons_self ..)).1
  simp only [It.box] at hrs
  have S1 := ((S.alloc #[.int .i64 0, .int .i64 0, .slice none 0 0] 25).push.lit [7, 5, 8, 3, 10, 1, 16, 4, 2] 3).push
  simp only [List.map_cons, List.map_nil, World.size_alloc] at S1
  have F1 := (hf.push (p' := p) (x := It.box w.heap.size #[.int .i64 0, .int .i64 0, .slice none 0 0] 25) (.inl hrs)).push (p' := p) (x := It.own (w.heap.size + 1) (w.heap.size + 1 + 1) (some ⟨w.heap.size + 1, 0, none⟩) [7, 5, 8, 3, 10, 1, 16, 4, 2]) (.inl (by simp [It.own]; omega))
  go_enter Tryz.func15, Tryz.ntmps15
  go_wp2_with fail
  refine (num_any S1 ho hr F1 0 9 _ _ _ 9 _ rfl rfl (by simp) (by simp) (by omega)).mono ?_
  rintro e w1 ⟨i, hi, rfl, S2⟩
  obtain ⟨b1, b2⟩ := nth_all (P := fun x => 1 ≤ x ∧ x ≤ 16) (xs := [7, 5, 8, 3, 10, 1, 16, 4, 2]) (by decide) hi
  generalize nth [7, 5, 8, 3, 10, 1, 16, 4, 2] i = x at b1 b2 ⊢
  obtain ⟨n, rfl⟩ : ∃ n : Nat, x = n := ⟨x.toNat, by omega⟩
  have z1 : r + 1 ≤ w1.heap.size := S2.sz 0 rfl
  have S3 := (S2.lit [1, 1, 3, 5, 0, 7] 3).push
  simp only [List.map_cons, List.map_nil] at S3
  have F2 := F1.push (p' := p + 1) (x := It.own w1.heap.size (w1.heap.size + 1) (some ⟨w1.heap.size, 0, none⟩) [1, 1, 3, 5, 0, 7]) (.inl (by simp [It.own]; omega))
  go_wp2_with fail
  refine (num_any S3 ho hr F2 0 6 _ _ _ 6 _ rfl rfl (by simp) (by simp) (by omega)).mono ?_
  rintro e w2 ⟨i2, hi2, rfl, S4⟩
  obtain ⟨b3, b4⟩ := nth_all (P := fun x => 0 ≤ x ∧ x ≤ 7) (xs := [1, 1, 3, 5, 0, 7]) (by decide) hi2
  generalize nth [1, 1, 3, 5, 0, 7] i2 = t at b3 b4 ⊢
  have z2 : r + 1 ≤ w2.heap.size := S4.sz 0 rfl
  have S5 := (S4.lit [0, 0, 2, 11] 3).push
  simp only [List.map_cons, List.map_nil] at S5
  have F3 := F2.push (p' := p + 1 + 1) (x := It.own w2.heap.size (w2.heap.size + 1) (some ⟨w2.heap.size, 0, none⟩) [0, 0, 2, 11]) (.inl (by simp [It.own]; omega))
  go_wp2_with fail
  refine (num_any S5 ho hr F3 0 4 _ _ _ 4 _ rfl rfl (by simp) (by simp) (by omega)).mono ?_
  rintro e w3 ⟨i3, hi3, rfl, S6⟩
  obtain ⟨b5, b6⟩ := nth_all (P := fun x => 0 ≤ x ∧ x ≤ 11) (xs := [0, 0, 2, 11]) (by decide) hi3
  generalize nth [0, 0, 2, 11] i3 = q at b5 b6 ⊢
  have z3 : w.heap.size + 1 ≤ w3.heap.size := S6.sz 5 rfl
  go_wp2_with fail
  refine (l1Free_any n t q _ (by omega)).mono ?_
  rintro e w4 ⟨a', c', rfl, ho4, hb4, hr4⟩
  have S7 := (S6.below hb4).add (It.row (w3.heap.size + 1) w4.heap.size (.slice a' n c') (List.replicate n (-1))) (Nat.le_refl _) ⟨by rw [List.length_replicate]; exact hr4, fun k e => (hr4.lt k e).2⟩
  clear hb4 ho4 hr4
  obtain ⟨x0, x1, x2, x3, x4, x5, xz⟩ := facts3 (S7.cells 6 rfl)
  go_wp2
  refine bodyPost_ret (v := tbl t q a' n c') (by simp [results, Tryz.results15, go_sem, x0, x1, x2]) rfl ⟨n, t, q, a', c', w3.heap.size + 1, rfl, by omega, by omega, ⟨b3, b4⟩, ⟨b5, b6⟩, by omega, ?_⟩
  rw [show ∀ x y z, (((w4.setCell ⟨w.heap.size, 0, none⟩ x).setCell ⟨w.heap.size, 1, none⟩ y).setCell ⟨w.heap.size, 2, none⟩ z).heap.size = w4.heap.size from fun _ _ _ => by simp [World.setCell]]
  have hfar : Far (It.box w.heap.size #[] 0) (It.row (w3.heap.size + 1) w4.heap.size (.slice a' n c') (List.replicate n (-1)) :: rd r a c code (p + 3) :: It.bytes _ a code :: l) :=
    ⟨.inr (by show w.heap.size + 1 ≤ w3.heap.size + 1; omega), .inl (by simpa [It.box] using hrs), Far.older S (i := It.box w.heap.size #[] 0) (fun j hj => List.mem_cons_of_mem _ hj) (Nat.le_refl _)⟩
  refine St.set3Far (S7.turn ?_) hfar (by omega) _ _ _
  intro j hj
  simp only [List.mem_cons] at hj ⊢
  rcases hj with h | h | h | h
  · exact .inl h
  · exact .inr (.inl h)
  · exact .inr (.inr (.inl h))
  · exact .inr (.inr (.inr (.inr (.inr (.inr (.inr h))))))

end Go.Proofs.YtkdkdmjhhgllgaaGreatDoor

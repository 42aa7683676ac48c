/-
  What chapter 7 draws as arguments.
-/
import Derived.Shelf.Small.Wraps
import Derived.Test.YtddomanabcmnpaaCame
import Derived.Test.YtddomanabcmnpaaDraw1
namespace Go.Proofs.Ytddomanabcmnpaa
open Go.RowKit

/-- A reader that stands at byte p. -/
structure Rd (w0 w : World) (l : List It) (r hi : Nat) (a : Option Addr) (c p : Nat) (code : List Int) : Prop where
  st : St w0 w (rd r a c code p :: It.bytes hi a code :: l)
  ok : CodeOk code
  hr : w0.heap.size ≤ r
  far : Far (rd r a c code p) (It.bytes hi a code :: l)

theorem Rd.rest {w0 w : World} {l : List It} {r hi : Nat} {a : Option Addr} {c p : Nat} {code : List Int} (R : Rd w0 w l r hi a c p code) : St w0 w l :=
  R.st.turn fun _ hi => List.mem_cons_of_mem _ (List.mem_cons_of_mem _ hi)

theorem Rd.numL {w0 w : World} {l : List It} {r hi : Nat} {a : Option Addr} {c p : Nat} {code : List Int} (R : Rd w0 w l r hi a c p code) (xs : List Int) (h1 : 1 ≤ xs.length) (h2 : xs.length ≤ 1000) (hp : p ≤ 900000)
    (W : World) (hW : W = w.alloc (.cells (xs.map (Value.int .i64)).toArray 3)) (n c' : Nat) (hn : n = xs.length) :
    Calls Try.prog 47 #[.pointer (some ⟨r, 0, none⟩), .slice (some ⟨w.heap.size, 0, none⟩) n c'] W fun e w' => ∃ i : Nat, i < xs.length ∧ e = .returned (.int .i64 (nth xs i)) ∧ Rd w0 w' l r hi a c (p + 1) code := by
  subst hW hn
  have hrs : r + 1 ≤ w.heap.size := R.st.sz 0 rfl
  have S1 := (R.st.lit xs 3).push
  have F1 := R.far.push (p' := p) (x := It.own w.heap.size (w.heap.size + 1) (some ⟨w.heap.size, 0, none⟩) xs) (.inl (by simp [It.own]; omega))
  refine (num_any S1 R.ok R.hr F1 0 xs.length _ _ _ c' xs rfl rfl h1 h2 (by omega)).mono ?_
  rintro e w1 ⟨i, hi', rfl, S2⟩
  refine ⟨i, hi', rfl, S2.turn fun k hk => ?_, R.ok, R.hr, Far.same R.far _⟩
  simp only [List.mem_cons] at hk ⊢
  rcases hk with h | h | h
  · exact .inl h
  · exact .inr (.inl h)
  · exact .inr (.inr (.inr h))

/-- A number out of a list that lies in memory. -/
theorem Rd.numAt {w0 w : World} {l : List It} {r hi : Nat} {a : Option Addr} {c p : Nat} {code : List Int} (R : Rd w0 w l r hi a c p code) (xs : List Int) (h1 : 1 ≤ xs.length) (h2 : xs.length ≤ 1000) (hp : p ≤ 900000)
    (m lo' hi' : Nat) (a' : Option Addr) (c' : Nat) (hm : l[m]? = some (It.own lo' hi' a' xs)) (n : Nat) (hn : n = xs.length) :
    Calls Try.prog 47 #[.pointer (some ⟨r, 0, none⟩), .slice a' n c'] w fun e w' => ∃ i : Nat, i < xs.length ∧ e = .returned (.int .i64 (nth xs i)) ∧ Rd w0 w' l r hi a c (p + 1) code := by
  refine (num_any R.st R.ok R.hr R.far m n lo' hi' a' c' xs hm hn h1 h2 (by omega)).mono ?_
  rintro e w1 ⟨i, hi', rfl, S2⟩
  exact ⟨i, hi', rfl, S2, R.ok, R.hr, Far.same R.far _⟩

theorem Rd.pickL {w0 w : World} {l : List It} {r hi : Nat} {a : Option Addr} {c p : Nat} {code : List Int} (R : Rd w0 w l r hi a c p code) (n : Int) (hn : 1 ≤ n) (hn2 : n ≤ 1000000) (hp : p ≤ 900000) :
    Calls Try.prog 48 #[.pointer (some ⟨r, 0, none⟩), .int .i64 n] w fun e w' => ∃ k : Int, 0 ≤ k ∧ k < n ∧ e = .returned (.int .i64 k) ∧ Rd w0 w' l r hi a c (p + 1) code := by
  refine (pick_any R.st R.ok R.hr R.far n hn hn2 (by omega)).mono ?_
  rintro e w1 ⟨k, h1, h2, rfl, S2⟩
  exact ⟨k, h1, h2, rfl, S2, R.ok, R.hr, Far.same R.far _⟩

theorem Rd.open {w0 w : World} {l : List It} {a : Option Addr} {c bh : Nat} {code : List Int} (S : St w0 w (It.bytes bh a code :: l)) (h : Came c code) :
    Calls Try.prog 41 #[.slice a code.length c] w fun e w' => ∃ r, e = .returned (.pointer (some ⟨r, 0, none⟩)) ∧ Rd w0 w' l r w.heap.size a c 0 (code.take 2000) := by
  have hz := S.size
  refine (Came.open S h).mono ?_
  rintro e w' ⟨r, rfl, hr, ok, hf, S1⟩
  exact ⟨r, rfl, S1, ok, by omega, hf⟩

set_option maxHeartbeats 1000000 in
theorem l7Size_any {w0 w : World} {l : List It} {r hi : Nat} {a : Option Addr} {c p : Nat} {code : List Int} (R : Rd w0 w l r hi a c p code) (hp : p ≤ 900000) :
    Calls Try.prog 52 #[.pointer (some ⟨r, 0, none⟩)] w fun e w' => ∃ n : Int, (0 ≤ n ∧ n ≤ 17) ∧ e = .returned (.int .i64 n) ∧ Rd w0 w' l r hi a c (p + 1) code := by
  go_enter Try.func52, Try.ntmps52
  go_wp2_with fail
  refine (R.numL [7, 8, 12, 5, 16, 9, 1, 2, 4, 6, 0, 17] (by simp) (by simp) hp _ rfl 12 _ rfl).mono ?_
  rintro e w1 ⟨i, hi', rfl, R1⟩
  have b := nth_all (P := fun x => 0 ≤ x ∧ x ≤ 17) (xs := [7, 8, 12, 5, 16, 9, 1, 2, 4, 6, 0, 17]) (by decide) hi'
  generalize nth [7, 8, 12, 5, 16, 9, 1, 2, 4, 6, 0, 17] i = x at b ⊢
  go_wp2
  go_ret
  exact ⟨x, b, rfl, R1⟩

set_option maxHeartbeats 1000000 in
theorem l7Draw_any {w0 w : World} {l : List It} {r hi : Nat} {a : Option Addr} {c p : Nat} {code : List Int} (R : Rd w0 w l r hi a c p code) (hp : p ≤ 800000) :
    Calls Try.prog 40 #[.pointer (some ⟨r, 0, none⟩)] w fun e w' => ∃ n k s : Int, (0 ≤ n ∧ n ≤ 17) ∧ (-1 ≤ k ∧ k ≤ 3) ∧ (-1 ≤ s ∧ s ≤ 17) ∧ e = .returned (.tuple #[.int .i64 n, .int .i64 k, .int .i64 s]) ∧ Rd w0 w' l r hi a c (p + 4) code := by
  go_enter Try.func40, Try.ntmps40
  go_wp2_with fail
  refine (l7Size_any R (by omega)).mono ?_
  rintro e w1 ⟨n, bn, rfl, R1⟩
  go_wp2_with fail
  refine (R1.numL [0, 1, 2, 0, 3, -1, 1, 2] (by simp) (by simp) (by omega) _ rfl 8 _ rfl).mono ?_
  rintro e w2 ⟨i, hi', rfl, R2⟩
  have bk := nth_all (P := fun x => -1 ≤ x ∧ x ≤ 3) (xs := [0, 1, 2, 0, 3, -1, 1, 2]) (by decide) hi'
  generalize nth [0, 1, 2, 0, 3, -1, 1, 2] i = k at bk ⊢
  go_wp2_with fail
  refine (R2.pickL 17 (by omega) (by omega) (by omega)).mono ?_
  rintro e w3 ⟨q, q0, q1, rfl, R3⟩
  go_wp2_with fail
  refine (R3.numL [1, 2, 3, q, 5, 0, 17, -1] (by simp) (by simp) (by omega) _ rfl 8 _ rfl).mono ?_
  rintro e w4 ⟨i2, hi2, rfl, R4⟩
  have bs := nth_all (P := fun x => -1 ≤ x ∧ x ≤ 17) (xs := [1, 2, 3, q, 5, 0, 17, -1]) (by simp; omega) hi2
  generalize nth [1, 2, 3, q, 5, 0, 17, -1] i2 = s at bs ⊢
  go_wp2
  refine bodyPost_ret (v := .tuple #[.int .i64 n, .int .i64 k, .int .i64 s]) (by simp [results, Try.results40, go_sem]) rfl ⟨n, k, s, bn, bk, bs, rfl, R4⟩

/-- Three numbers. -/
def ThreeNs (w0 : World) (l : List It) (e : Ending) (w' : World) : Prop :=
  ∃ n k s : Int, (0 ≤ n ∧ n ≤ 17) ∧ (-1 ≤ k ∧ k ≤ 3) ∧ (-1 ≤ s ∧ s ≤ 17) ∧ e = .returned (.tuple #[.int .i64 n, .int .i64 k, .int .i64 s]) ∧ St w0 w' l

theorem DrawReachOf_any {w0 w : World} {l : List It} {a : Option Addr} {c bh : Nat} {code : List Int} (S : St w0 w (It.bytes bh a code :: l)) (h : Came c code) :
    Calls Try.prog 17 #[.slice a code.length c] w (ThreeNs w0 l) := by
  have C := Rd.open S h
  generalize code.length = m at C ⊢
  generalize code.take 2000 = cd at C
  go_enter Try.func17, Try.ntmps17
  go_wp2_with fail
  refine C.mono ?_
  rintro e w1 ⟨r, rfl, R⟩
  go_wp2_with fail
  refine (l7Draw_any R (by omega)).mono ?_
  rintro e w2 ⟨n, k, s, bn, bk, bs, rfl, R2⟩
  go_wp2
  refine bodyPost_ret (v := .tuple #[.int .i64 n, .int .i64 k, .int .i64 s]) (by simp [results, Try.results17, go_sem]) rfl ⟨n, k, s, bn, bk, bs, rfl, R2.rest⟩

theorem DrawIsWhole_any {w0 w : World} {l : List It} {a : Option Addr} {c bh : Nat} {code : List Int} (S : St w0 w (It.bytes bh a code :: l)) (h : Came c code) :
    Calls Try.prog 19 #[.slice a code.length c] w (ThreeNs w0 l) := by
  have C := Rd.open S h
  generalize code.length = m at C ⊢
  generalize code.take 2000 = cd at C
  go_enter Try.func19, Try.ntmps19
  go_wp2_with fail
  refine C.mono ?_
  rintro e w1 ⟨r, rfl, R⟩
  go_wp2_with fail
  refine (l7Draw_any R (by omega)).mono ?_
  rintro e w2 ⟨n, k, s, bn, bk, bs, rfl, R2⟩
  go_wp2
  refine bodyPost_ret (v := .tuple #[.int .i64 n, .int .i64 k, .int .i64 s]) (by simp [results, Try.results19, go_sem]) rfl ⟨n, k, s, bn, bk, bs, rfl, R2.rest⟩

theorem DrawWholeSteps_any {w0 w : World} {l : List It} {a : Option Addr} {c bh : Nat} {code : List Int} (S : St w0 w (It.bytes bh a code :: l)) (h : Came c code) :
    Calls Try.prog 28 #[.slice a code.length c] w fun e w' => ∃ n : Int, (0 ≤ n ∧ n ≤ 17) ∧ e = .returned (.int .i64 n) ∧ St w0 w' l := by
  have C := Rd.open S h
  generalize code.length = m at C ⊢
  generalize code.take 2000 = cd at C
  go_enter Try.func28, Try.ntmps28
  go_wp2_with fail
  refine C.mono ?_
  rintro e w1 ⟨r, rfl, R⟩
  go_wp2_with fail
  refine (l7Size_any R (by omega)).mono ?_
  rintro e w2 ⟨n, bn, rfl, R2⟩
  go_wp2
  go_ret
  exact ⟨n, bn, rfl, R2.rest⟩

set_option maxHeartbeats 1000000 in
theorem DrawWayOf_any {w0 w : World} {l : List It} {a : Option Addr} {c bh : Nat} {code : List Int} (S : St w0 w (It.bytes bh a code :: l)) (h : Came c code) :
    Calls Try.prog 24 #[.slice a code.length c] w fun e w' => ∃ n k s h : Int, (0 ≤ n ∧ n ≤ 17) ∧ (-1 ≤ k ∧ k ≤ 3) ∧ (-1 ≤ s ∧ s ≤ 17) ∧ (-1 ≤ h ∧ h ≤ 17) ∧ e = .returned (.tuple #[.int .i64 n, .int .i64 k, .int .i64 s, .int .i64 h]) ∧ St w0 w' l := by
  have C := Rd.open S h
  generalize code.length = m at C ⊢
  generalize code.take 2000 = cd at C
  go_enter Try.func24, Try.ntmps24
  go_wp2_with fail
  refine C.mono ?_
  rintro e w1 ⟨r, rfl, R⟩
  go_wp2_with fail
  refine (l7Draw_any R (by omega)).mono ?_
  rintro e w2 ⟨n, k, s, bn, bk, bs, rfl, R2⟩
  go_wp2_with fail
  refine (R2.pickL 16 (by omega) (by omega) (by omega)).mono ?_
  rintro e w3 ⟨q, q0, q1, rfl, R3⟩
  go_wp2_with fail
  refine (R3.numL [0, 1, q, 3, -1, n] (by simp) (by simp) (by omega) _ rfl 6 _ rfl).mono ?_
  rintro e w4 ⟨i2, hi2, rfl, R4⟩
  have bh := nth_all (P := fun x => -1 ≤ x ∧ x ≤ 17) (xs := [0, 1, q, 3, -1, n]) (by simp; omega) hi2
  generalize nth [0, 1, q, 3, -1, n] i2 = hh at bh ⊢
  go_wp2
  refine bodyPost_ret (v := .tuple #[.int .i64 n, .int .i64 k, .int .i64 s, .int .i64 hh]) (by simp [results, Try.results24, go_sem]) rfl ⟨n, k, s, hh, bn, bk, bs, bh, rfl, R4.rest⟩

theorem Rd.lit {w0 w : World} {l : List It} {r hi : Nat} {a : Option Addr} {c p : Nat} {code : List Int} (R : Rd w0 w l r hi a c p code) (xs : List Int) :
    Rd w0 (w.alloc (.cells (xs.map (Value.int .i64)).toArray 3)) (It.own w.heap.size (w.heap.size + 1) (some ⟨w.heap.size, 0, none⟩) xs :: l) r hi a c p code := by
  have hrs : r + 1 ≤ w.heap.size := R.st.sz 0 rfl
  exact ⟨(R.st.lit xs 3).push, R.ok, R.hr, R.far.push (p' := p) (x := It.own w.heap.size (w.heap.size + 1) (some ⟨w.heap.size, 0, none⟩) xs) (.inl (by simp [It.own]; omega))⟩

set_option maxRecDepth 100000 in
set_option maxHeartbeats 1000000 in
theorem DrawShareOf_any {w0 w : World} {l : List It} {a : Option Addr} {c bh : Nat} {code : List Int} (S : St w0 w (It.bytes bh a code :: l)) (h : Came c code) :
    Calls Try.prog 31 #[.slice a code.length c] w fun e w' => ∃ x y : Int, (-1 ≤ x ∧ x ≤ 9223372036854775807) ∧ (-1 ≤ y ∧ y ≤ 9223372036854775807) ∧ e = .returned (.tuple #[.int .i64 x, .int .i64 y]) ∧ St w0 w' l := by
  have C := Rd.open S h
  generalize code.length = m at C ⊢
  generalize code.take 2000 = cd at C
  go_enter Try.func31, Try.ntmps31
  go_wp2_with fail
  refine C.mono ?_
  rintro e w1 ⟨r, rfl, R⟩
  go_wp2_with fail
  refine (R.pickL 100 (by omega) (by omega) (by omega)).mono ?_
  rintro e w2 ⟨q, q0, q1, rfl, R1⟩
  have R2 := R1.lit [12, 18, 7, 0, 16, q, 1000000, 9223372036854775807, -1]
  simp only [List.map_cons, List.map_nil] at R2
  have hall : ∀ x ∈ [12, 18, 7, 0, 16, q, 1000000, 9223372036854775807, (-1 : Int)], -1 ≤ x ∧ x ≤ 9223372036854775807 := by simp; omega
  have HA := Lib.hid hall
  clear hall
  go_wp2_with fail
  refine (R2.numAt [12, 18, 7, 0, 16, q, 1000000, 9223372036854775807, -1] (by simp) (by simp) (by omega) 0 _ _ _ _ rfl 9 rfl).mono ?_
  rintro e w3 ⟨i, hi', rfl, R3⟩
  have bx := nth_all HA.out hi'
  generalize nth [12, 18, 7, 0, 16, q, 1000000, 9223372036854775807, -1] i = x at bx ⊢
  go_wp2_with fail
  refine (R3.numAt [12, 18, 7, 0, 16, q, 1000000, 9223372036854775807, -1] (by simp) (by simp) (by omega) 0 _ _ _ _ rfl 9 rfl).mono ?_
  rintro e w4 ⟨i2, hi2, rfl, R4⟩
  have b2 := nth_all HA.out hi2
  generalize nth [12, 18, 7, 0, 16, q, 1000000, 9223372036854775807, -1] i2 = y at b2 ⊢
  have SE := R4.rest.turn (l' := l) fun i hi => List.mem_cons_of_mem _ hi
  go_wp2
  refine bodyPost_ret (v := .tuple #[.int .i64 x, .int .i64 y]) (by simp [results, Try.results31, go_sem]) rfl ⟨x, y, bx, b2, rfl, SE⟩

set_option maxRecDepth 100000 in
set_option maxHeartbeats 1000000 in
theorem DrawMeetAt_any {w0 w : World} {l : List It} {a : Option Addr} {c bh : Nat} {code : List Int} (S : St w0 w (It.bytes bh a code :: l)) (h : Came c code) :
    Calls Try.prog 34 #[.slice a code.length c] w fun e w' => ∃ n f o s t : Int, (0 ≤ n ∧ n ≤ 17) ∧ (0 ≤ f ∧ f ≤ 16) ∧ (-1 ≤ o ∧ o ≤ 16) ∧ (0 ≤ s ∧ s ≤ 16) ∧ (0 ≤ t ∧ t ≤ 16) ∧ e = .returned (.tuple #[.int .i64 n, .int .i64 f, .int .i64 o, .int .i64 s, .int .i64 t]) ∧ St w0 w' l := by
  have C := Rd.open S h
  generalize code.length = m at C ⊢
  generalize code.take 2000 = cd at C
  go_enter Try.func34, Try.ntmps34
  go_wp2_with fail
  refine C.mono ?_
  rintro e w1 ⟨r, rfl, R⟩
  go_wp2_with fail
  refine (l7Size_any R (by omega)).mono ?_
  rintro e w2 ⟨n, bn, rfl, R1⟩
  obtain ⟨M, hM⟩ : ∃ M : Int, max n 1 = M := ⟨_, rfl⟩
  have M1 : 1 ≤ M ∧ M ≤ 17 := by omega
  go_wp2_with fail
  refine (R1.pickL M (by omega) (by omega) (by omega)).mono ?_
  rintro e w3 ⟨f, f0, f1, rfl, R2⟩
  go_wp2_with fail
  refine (R2.pickL M (by omega) (by omega) (by omega)).mono ?_
  rintro e w4 ⟨s, s0, s1, rfl, R3⟩
  clear hM
  go_wp2_with fail
  refine (R3.pickL 17 (by omega) (by omega) (by omega)).mono ?_
  rintro e w5 ⟨q, q0, q1, rfl, R4⟩
  go_wp2_with fail
  refine (R4.numL [1, 2, 3, q, -1] (by simp) (by simp) (by omega) _ rfl 5 _ rfl).mono ?_
  rintro e w6 ⟨i, hi', rfl, R5⟩
  have bo := nth_all (P := fun x => -1 ≤ x ∧ x ≤ 16) (xs := [1, 2, 3, q, -1]) (by simp; omega) hi'
  generalize nth [1, 2, 3, q, -1] i = o at bo ⊢
  go_wp2_with fail
  refine (R5.pickL 17 (by omega) (by omega) (by omega)).mono ?_
  rintro e w7 ⟨q2, q3, q4, rfl, R6⟩
  go_wp2_with fail
  refine (R6.numL [1, 3, 2, q2, 0] (by simp) (by simp) (by omega) _ rfl 5 _ rfl).mono ?_
  rintro e w8 ⟨i2, hi2, rfl, R7⟩
  have bt := nth_all (P := fun x => 0 ≤ x ∧ x ≤ 16) (xs := [1, 3, 2, q2, 0]) (by simp; omega) hi2
  generalize nth [1, 3, 2, q2, 0] i2 = t at bt ⊢
  go_wp2
  refine bodyPost_ret (v := .tuple #[.int .i64 n, .int .i64 f, .int .i64 o, .int .i64 s, .int .i64 t]) (by simp [results, Try.results34, go_sem]) rfl ⟨n, f, o, s, t, bn, by omega, bo, by omega, bt, rfl, R7.rest⟩

end Go.Proofs.Ytddomanabcmnpaa

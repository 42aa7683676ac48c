/-
  A move that is gone on with, in slots of its own: the program's movingOf, move, StartMove.
-/
import Derived.Test.YtjhdlbcgnhkbhaaGreatMoveV
import Derived.Test.YtjhdlbcgnhkbhaaGreatMoveC
import Derived.Test.YtjhdlbcgnhkbhaaGreatPut
namespace Go.Proofs.YtjhdlbcgnhkbhaaGreat
open Go.RowKit

theorem cloneI_any (zs : List Int) (a : Option Addr) (c : Nat) (w : World) (l1 : 1 ≤ zs.length) (l2 : zs.length ≤ 16) (h : IntsAt w a zs) :
    Calls Tryz.prog 51 #[.slice a zs.length c] w fun e w' => ∃ g k, e = .returned (.slice (some ⟨g, 0, none⟩) zs.length k) ∧ zs.length ≤ k ∧ OwnInts w' w.heap.size (some ⟨g, 0, none⟩) zs ∧ Below w.heap.size w w' := by
  obtain ⟨b, o, rfl, hc⟩ := h (by omega)
  refine (Tryz.slices_Clone_int b o zs.length c zs _ (Nat.le_refl _) (by omega) (fun j hj => by exact hc j hj)).mono ?_
  rintro e w2 ⟨v', rfl, hown, _, hb⟩
  obtain ⟨g, c', rfl⟩ := ownsRow_pos hown (by omega)
  have hcap := ownsRow_cap hown
  rw [List.take_length] at hown
  exact ⟨g, c', rfl, hcap, ownsRow_ints hown, hb⟩

theorem St.mov2 {w0 w : World} {l : List It} {b : Nat} {c0 c1 c2 c3 c4 c5 c6 : Value} {t : TypeId} (h : St w0 w l) (n : Nat) (hn : l[n]? = some (It.box b #[c0, c1, c2, c3, c4, c5, c6] t)) (x : Value) (hf : Far (It.box b #[c0, c1, c2, c3, c4, c5, c6] t) (l.eraseIdx n)) (hlo : w0.heap.size ≤ b) :
    St w0 (w.setCell ⟨b, 2, none⟩ x) (l.set n (It.box b #[c0, c1, x, c3, c4, c5, c6] t)) := h.put n hn 2 x hf hlo
theorem St.mov5 {w0 w : World} {l : List It} {b : Nat} {c0 c1 c2 c3 c4 c5 c6 : Value} {t : TypeId} (h : St w0 w l) (n : Nat) (hn : l[n]? = some (It.box b #[c0, c1, c2, c3, c4, c5, c6] t)) (x : Value) (hf : Far (It.box b #[c0, c1, c2, c3, c4, c5, c6] t) (l.eraseIdx n)) (hlo : w0.heap.size ≤ b) :
    St w0 (w.setCell ⟨b, 5, none⟩ x) (l.set n (It.box b #[c0, c1, c2, c3, c4, x, c6] t)) := h.put n hn 5 x hf hlo
theorem St.wider {w0 w : World} {l : List It} (h : St w0 w l) (n : Nat) {lo hi lo' : Nat} {a : Option Addr} {zs : List Int} (hn : l[n]? = some (It.own lo hi a zs)) (hlo : lo' ≤ lo) : St w0 w (It.own lo' hi a zs :: l) :=
  h.add _ (h.all _ (List.mem_of_getElem? hn)).1 ⟨(h.get n hn).1.mono hlo, (h.get n hn).2⟩
/-- What a new table of the size asked makes of a move. -/
theorem start_new {T U : Tab} {size : Int} (h : newTab size T.t T.p = U) : startOk T size = movB ⟨T, U, 0⟩ ∧ (startOk T size = true → startMT T size = ⟨T, U, 0⟩) := by
  have key : (soundB T && inB size 1 16) = true → startM T size = ⟨T, U, 0⟩ := fun hk => by
    rw [Bool.and_eq_true] at hk
    have hv := sound_valid hk.1
    obtain ⟨_, ht, hp, _⟩ := valid_facts hv
    have hh : headB size T.t T.p = true := by simp [headB, hk.2, inB_true ht, inB_true hp]
    rw [← h, newTab, if_pos hh, startM]
  have bad : (soundB T && inB size 1 16) = false → movB ⟨T, U, 0⟩ = false := fun hk => by
    refine movB_no ?_
    cases hs : soundB T
    · simp [headM, hs]
    · rw [hs, Bool.true_and] at hk
      have hh : headB size T.t T.p = false := by simp [headB, hk]
      have hu : U = ⟨0, 0, []⟩ := by rw [← h, newTab, if_neg (by simp [hh])]
      have : soundB U = false := by
        rw [hu]
        rfl
      simp [headM, this]
  cases hk : (soundB T && inB size 1 16)
  · have e : startOk T size = false := by
      rw [startOk, ← Bool.and_assoc, hk, Bool.false_and]
    exact ⟨by rw [e, bad hk], fun h2 => by rw [e] at h2; cases h2⟩
  · have e : startOk T size = movB ⟨T, U, 0⟩ := by
      rw [startOk, ← Bool.and_assoc, hk, Bool.true_and, key hk]
    exact ⟨e, fun h2 => (start_yes h2).trans (key hk)⟩

/-- The cells of a moving. -/
abbrev goC (M : Mov) (a1 : Option Addr) (c1 : Nat) (a2 : Option Addr) (c2 : Nat) : Array Value :=
  #[.int .i64 M.o.t, .int .i64 M.o.p, .slice a1 M.o.zs.length c1, .int .i64 M.x, .int .i64 M.n.t, .int .i64 M.n.p, .slice a2 M.n.zs.length c2]
/-- What movingOf returns. -/
def GoRes (M : Mov) (w : World) (e : Ending) (w' : World) : Prop :=
  (movB M = false ∧ e = .returned (.tuple #[.pointer none, .bool false]) ∧ Below w.heap.size w w') ∨
  (movB M = true ∧ ∃ B g1 k1 g2 k2 mid hi, e = .returned (.tuple #[.pointer (some ⟨B, 0, none⟩), .bool true]) ∧ M.o.zs.length ≤ k1 ∧ w.heap.size ≤ mid ∧ mid ≤ hi ∧ hi ≤ B ∧
    St w w' [It.box B (goC M (some ⟨g1, 0, none⟩) k1 (some ⟨g2, 0, none⟩) k2) 72, It.own mid hi (some ⟨g2, 0, none⟩) M.n.zs, It.own w.heap.size mid (some ⟨g1, 0, none⟩) M.o.zs])

set_option maxHeartbeats 4000000 in
theorem movingOf_any (M : Mov) (a1 : Option Addr) (c1 : Nat) (a2 : Option Addr) (c2 : Nat) (w : World) (hx1 : M.o.zs.length ≤ 9223372036854775807) (hx2 : M.n.zs.length ≤ 9223372036854775807) (hc : M.o.zs.length ≤ c1) (h1 : IntsAt w a1 M.o.zs) (h2 : IntsAt w a2 M.n.zs) :
    Calls Tryz.prog 33 #[movV M a1 c1 a2 c2] w (GoRes M w) := by
  have S0 := (((St.start w).read h1).read h2).alloc (movC M a1 c1 a2 c2) 28
  obtain ⟨x0, x1, x2, x3, x4, x5, x6, xz⟩ := facts7 (S0.cells 0 rfl)
  cases hm : movB M
  · have HM := Lib.hid hm
    go_enter Tryz.func33, Tryz.ntmps33
    go_wp2_with fail
    refine (MoveValid_any M a1 c1 a2 c2 _ hx1 hx2 hc (by exact S0.reads 2 rfl) (by exact S0.reads 1 rfl)).mono ?_
    rw [hm]
    rintro e w1 ⟨rfl, hb⟩
    have S1 := S0.below hb
    clear x0 x1 x2 x3 x4 x5 x6 xz
    go_wp2_with fail
    refine bodyPost_ret (v := .tuple #[.pointer none, .bool false]) (by simp [results, Tryz.results33, go_sem]) rfl (.inl ⟨HM.out, rfl, S1.old⟩)
  · have HM := Lib.hid hm
    have hs1 := (headM_iff.1 (movB_iff.1 hm).1).1
    have hs2 := (headM_iff.1 (movB_iff.1 hm).1).2.1
    obtain ⟨⟨l1, l2⟩, -⟩ := valid_facts (sound_valid hs1)
    obtain ⟨⟨l3, l4⟩, -⟩ := valid_facts (sound_valid hs2)
    clear hs1 hs2
    go_enter Tryz.func33, Tryz.ntmps33
    go_wp2_with fail
    refine (MoveValid_any M a1 c1 a2 c2 _ hx1 hx2 hc (by exact S0.reads 2 rfl) (by exact S0.reads 1 rfl)).mono ?_
    rw [hm]
    rintro e w1 ⟨rfl, hb⟩
    have S1 := S0.below hb
    have z1 : w.heap.size + 1 ≤ w1.heap.size := by have := hb.size; simpa using this
    clear S0 hb hm x0 x1 x2 x3 x4 x5 x6 xz
    obtain ⟨x0, x1, x2, x3, x4, x5, x6, xz⟩ := facts7 (S1.cells 0 rfl)
    go_wp2_with fail
    refine (cloneI_any M.o.zs a1 c1 _ l1 l2 (by exact S1.reads 2 rfl)).mono ?_
    rintro e w2 ⟨g1, k1, rfl, hk1, ho, hb⟩
    have S2 := (S1.below hb).own ho
    have z2 := hb.size
    clear S1 ho hb x0 x1 x2 x3 x4 x5 x6 xz
    obtain ⟨x0, x1, x2, x3, x4, x5, x6, xz⟩ := facts7 (S2.cells 1 rfl)
    obtain ⟨f0, f1, f2, f3, f4, f5, f6⟩ := free7 (S2.cells 1 rfl)
    have S3 := S2.mov2 1 rfl (.slice (some ⟨g1, 0, none⟩) M.o.zs.length k1) (by simp [Far, It.own, It.box, It.read]; omega) (by omega)
    simp only [List.set_cons_succ, List.set_cons_zero] at S3
    clear S2
    have Q := facts7 (S3.cells 1 rfl)
    go_wp2_with fail
    clear x0 x1 x2 x3 x4 x5 x6 xz f0 f1 f2 f3 f4 f5 f6
    refine (cloneI_any M.n.zs a2 c2 _ l3 l4 (by exact S3.reads 2 rfl)).mono ?_
    rintro e w3 ⟨g2, k2, rfl, hk2, ho, hb⟩
    have S4 := (S3.below hb).own ho
    have z3 := hb.size
    rw [size_set] at S4 z3
    clear S3 ho hb Q
    obtain ⟨x0, x1, x2, x3, x4, x5, x6, xz⟩ := facts7 (S4.cells 2 rfl)
    obtain ⟨f0, f1, f2, f3, f4, f5, f6⟩ := free7 (S4.cells 2 rfl)
    have S5 := S4.mov5 2 rfl (.slice (some ⟨g2, 0, none⟩) M.n.zs.length k2) (by simp [Far, It.own, It.box, It.read]; omega) (by omega)
    simp only [List.set_cons_succ, List.set_cons_zero] at S5
    have S6 := S5.alloc (goC M (some ⟨g1, 0, none⟩) k1 (some ⟨g2, 0, none⟩) k2) 72
    go_wp2_with fail
    refine bodyPost_ret (v := .tuple #[.pointer (some ⟨_, 0, none⟩), .bool true]) (by simp [results, Tryz.results33, go_sem]) rfl (.inr ⟨HM.out, _, g1, k1, g2, k2, w2.heap.size, w3.heap.size, rfl, hk1, by omega, z3, Nat.le_refl _, ?_⟩)
    rw [size_set] at S6
    exact (S6.wider 2 rfl (show w.heap.size ≤ w1.heap.size by omega)).turn fun i hi => by
      simp only [List.mem_cons, List.not_mem_nil, or_false] at hi ⊢
      rcases hi with rfl | rfl | rfl
      · exact .inr (.inl rfl)
      · exact .inr (.inr (.inl rfl))
      · exact .inl rfl

set_option maxHeartbeats 2000000 in
/-- What a moving is as a move. -/
theorem goMove_any (M : Mov) (B : Nat) (a1 : Option Addr) (c1 : Nat) (a2 : Option Addr) (c2 : Nat) (w : World) (hB : w.heap[B]? = some (.cells (goC M a1 c1 a2 c2) 72 (0, 0))) :
    Calls Tryz.prog 34 #[.pointer (some ⟨B, 0, none⟩)] w fun e w' => e = .returned (movV M a1 c1 a2 c2) ∧ Below w.heap.size w w' := by
  have S0 := ((St.start w).add (It.box B (goC M a1 c1 a2 c2) 72) (by have := (Array.getElem?_eq_some_iff.1 hB).1; simp [It.box]; omega) hB).alloc movZ 28
  have hBl : B < w.heap.size := (Array.getElem?_eq_some_iff.1 hB).1
  have X0 := S0.seven 1 rfl
  obtain ⟨y0, y1, y2, y3, y4, y5, y6, yz⟩ := facts7 (S0.cells 0 rfl)
  go_enter Tryz.func34, Tryz.ntmps34
  go_wp2_with fail
  have SD := (((St.start w).add (It.box B (goC M a1 c1 a2 c2) 72) (by have := (Array.getElem?_eq_some_iff.1 hB).1; simp [It.box]; omega) hB).alloc (movC M a1 c1 a2 c2) 28).drew
  have X1 := SD.seven 1 rfl
  go_region_held3 (fun w' => w'.cell? ⟨B, 0, none⟩ = some (.int .i64 M.o.t) ∧ w'.cell? ⟨B, 1, none⟩ = some (.int .i64 M.o.p) ∧ w'.cell? ⟨B, 2, none⟩ = some (.slice a1 M.o.zs.length c1) ∧ w'.cell? ⟨B, 3, none⟩ = some (.int .i64 M.x) ∧ w'.cell? ⟨B, 4, none⟩ = some (.int .i64 M.n.t) ∧ w'.cell? ⟨B, 5, none⟩ = some (.int .i64 M.n.p) ∧ w'.cell? ⟨B, 6, none⟩ = some (.slice a2 M.n.zs.length c2))
    (first
      | (with_reducible exact X1)
      | exact X0)
    (fail)
  obtain ⟨r0, r1, r2, r3, r4, r5, r6, rz⟩ := facts7 (SD.cells 0 rfl)
  clear X0 X1 y0 y1 y2 y3 y4 y5 y6 yz S0
  go_wp2_with fail
  refine bodyPost_ret (v := movV M a1 c1 a2 c2) (by simp [results, Tryz.results34, go_sem, r0, r1, r2, r3, r4, r5, r6]) rfl ⟨rfl, SD.old⟩

set_option maxHeartbeats 4000000 in
theorem StartMove_any (T : Tab) (a : Option Addr) (c : Nat) (size : Int) (w : World) (hx : T.zs.length ≤ 9223372036854775807) (hc : T.zs.length ≤ c) (h1 : IntsAt w a T.zs) :
    Calls Tryz.prog 10 #[tabV T a c, .int .i64 size] w (MovOk (startMT T size) (startOk T size) w) := by
  have S0 := (((St.start w).read h1).alloc #[.int .i64 T.t, .int .i64 T.p, .slice a T.zs.length c] 26).alloc movZ 28
  rw [World.size_alloc] at S0
  obtain ⟨x0, x1, x2, x3, x4, x5, xz⟩ := facts3 (S0.cells 1 rfl)
  have HN := Lib.hid fun (W : World) => NewTable_any size T.t T.p W
  have hul := newTab_len size T.t T.p
  obtain ⟨U, hU⟩ : ∃ U, newTab size T.t T.p = U := ⟨_, rfl⟩
  rw [hU] at HN hul
  have E : Hid (startOk T size = movB ⟨T, U, 0⟩ ∧ (startOk T size = true → startMT T size = ⟨T, U, 0⟩)) := Lib.hid (start_new hU)
  clear hU
  generalize headB size T.t T.p = hb0 at HN
  go_enter Tryz.func10, Tryz.ntmps10
  go_wp2_with fail
  refine (HN.out _).mono ?_
  rintro e w1 ⟨a2, c2, rfl, ho, hb⟩
  have S1 := ((S0.below hb).own ho).alloc #[.int .i64 U.t, .int .i64 U.p, .slice a2 U.zs.length c2] 26
  have z1 := hb.size
  simp only [World.size_alloc] at S1 z1
  clear S0 hb ho x0 x1 x2 x3 x4 x5 xz
  obtain ⟨x0, x1, x2, x3, x4, x5, xz⟩ := facts3 (S1.cells 3 rfl)
  obtain ⟨y0, y1, y2, y3, y4, y5, yz⟩ := facts3 (S1.cells 0 rfl)
  go_wp2_with fail
  refine (movingOf_any ⟨T, U, 0⟩ a c a2 c2 _ hx (by show U.zs.length ≤ _; omega) hc (by exact S1.reads 4 rfl) (by exact S1.ints 1 rfl)).mono ?_
  rintro e w2 (⟨hm, rfl, hb⟩ | ⟨hm, B, g1, k1, g2, k2, mid, hi, rfl, hk1, hmid, hmh, hhB, R⟩)
  · have E0 : Hid (startOk T size = false) := Lib.hid (E.out.1.trans hm)
    have S2 := S1.below hb
    clear x0 x1 x2 x3 x4 x5 xz y0 y1 y2 y3 y4 y5 yz S1 hm
    obtain ⟨p0, p1, p2, p3, p4, p5, p6, pz⟩ := facts7 (S2.cells 2 rfl)
    obtain ⟨v0, v1, v2, v3, v4, v5, v6⟩ := free7 (S2.cells 2 rfl)
    have S6 := S2.mov7 2 rfl (.int .i64 0) (.int .i64 0) (.slice none 0 0) (.int .i64 0) (.int .i64 0) (.slice none 0 0) (.int .i64 0) (by simp [Far, It.own, It.box, It.read]; omega) (by omega)
    obtain ⟨r0, r1, r2, r3, r4, r5, r6, rz⟩ := facts7 (S6.cells 2 rfl)
    go_wp2_with fail
    refine bodyPost_ret (v := .tuple #[.agg #[.int .i64 0, .int .i64 0, .slice none 0 0, .int .i64 0, .int .i64 0, .slice none 0 0, .int .i64 0], .bool false]) (by simp [results, Tryz.results10, go_sem, r0, r1, r2, r3, r4, r5, r6]) rfl (movOk_no (start_no E0.out) E0.out S6.old)
  · have E0 : Hid (startOk T size = true ∧ startMT T size = ⟨T, U, 0⟩) := Lib.hid ⟨E.out.1.trans hm, E.out.2 (E.out.1.trans hm)⟩
    have S2 := S1.more R
    have z2 := R.size
    simp only [World.size_alloc] at z2 hmid S2
    simp only [List.cons_append, List.nil_append] at S2
    clear x0 x1 x2 x3 x4 x5 xz y0 y1 y2 y3 y4 y5 yz S1 R hm E
    go_wp2_with fail
    refine (goMove_any ⟨T, U, 0⟩ B (some ⟨g1, 0, none⟩) k1 (some ⟨g2, 0, none⟩) k2 _ (by exact S2.cells 0 rfl)).mono ?_
    rintro e w3 ⟨rfl, hb⟩
    have S3 := S2.below hb
    have z3 := hb.size
    clear S2 hb
    obtain ⟨p0, p1, p2, p3, p4, p5, p6, pz⟩ := facts7 (S3.cells 5 rfl)
    obtain ⟨v0, v1, v2, v3, v4, v5, v6⟩ := free7 (S3.cells 5 rfl)
    have S6 := S3.mov7 5 rfl (.int .i64 T.t) (.int .i64 T.p) (.slice (some ⟨g1, 0, none⟩) T.zs.length k1) (.int .i64 U.t) (.int .i64 U.p) (.slice (some ⟨g2, 0, none⟩) U.zs.length k2) (.int .i64 0) (by simp [Far, It.own, It.box, It.read]; omega) (by omega)
    simp only [List.set_cons_succ, List.set_cons_zero] at S6
    obtain ⟨r0, r1, r2, r3, r4, r5, r6, rz⟩ := facts7 (S6.cells 5 rfl)
    go_wp2_with fail
    refine bodyPost_ret (v := .tuple #[movV ⟨T, U, 0⟩ (some ⟨g1, 0, none⟩) k1 (some ⟨g2, 0, none⟩) k2, .bool true]) (by simp [results, Tryz.results10, go_sem, r0, r1, r2, r3, r4, r5, r6]) rfl ?_
    rw [E0.out.1, E0.out.2]
    refine ⟨_, k1, _, k2, _, rfl, hk1, S6.two 1 2 rfl rfl (by omega) (Nat.le_refl _) (by omega) ?_⟩
    have : hi ≤ w3.heap.size := (S3.all (It.own mid hi (some ⟨g2, 0, none⟩) U.zs) (by simp)).1
    simp [World.setCell]; omega

end Go.Proofs.YtjhdlbcgnhkbhaaGreat

/-
  PutIn of the program.
-/
import Derived.Test.YtjhdlbcgnhkbhaaGreatMoveG
import Derived.Test.YtjhdlbcgnhkbhaaGreatPut
namespace Go.Proofs.YtjhdlbcgnhkbhaaGreat
open Go.RowKit

theorem St.go4 {w0 w : World} {l : List It} {b : Nat} {c0 c1 c2 c3 c4 c5 c6 : Value} {t : TypeId} (h : St w0 w l) (n : Nat) (hn : l[n]? = some (It.box b #[c0, c1, c2, c3, c4, c5, c6] t)) (x y z : Value) (hf : Far (It.box b #[c0, c1, c2, c3, c4, c5, c6] t) (l.eraseIdx n)) (hlo : w0.heap.size ≤ b) :
    St w0 (((w.setCell ⟨b, 4, none⟩ x).setCell ⟨b, 5, none⟩ y).setCell ⟨b, 6, none⟩ z) (l.set n (It.box b #[c0, c1, c2, c3, x, y, z] t)) := h.put3 n hn 4 x y z hf hlo

set_option maxHeartbeats 4000000 in
theorem take_any (M : Mov) (B : Nat) (a1 : Option Addr) (c1 : Nat) (a2 : Option Addr) (c2 : Nat) (key : Int) {w0 w : World} {l : List It} (S : St w0 w (It.box B (goC M a1 c1 a2 c2) 72 :: l)) (hf : Far (It.box B (goC M a1 c1 a2 c2) 72) l) (hB : w0.heap.size ≤ B) (hx2 : M.n.zs.length ≤ 9223372036854775807) (h2 : IntsAt w a2 M.n.zs) :
    Calls Tryz.prog 42 #[.pointer (some ⟨B, 4, none⟩), .int .i64 key] w fun e w' => w.heap.size ≤ w'.heap.size ∧
      ((putOk M.n key = false ∧ e = .returned (.bool false) ∧ St w0 w' l) ∨
       (putOk M.n key = true ∧ e = .returned (.bool true) ∧ ∃ a3 c3 hi, St w0 w' (It.box B (goC ⟨M.o, putT M.n key, M.x⟩ a1 c1 a3 c3) 72 :: It.own w.heap.size hi a3 (putT M.n key).zs :: l))) := by
  obtain ⟨x0, x1, x2, x3, x4, x5, x6, xz⟩ := facts7 (S.cells 0 rfl)
  have HP := Lib.hid (PutKey_any M.n a2 c2 key w hx2 h2)
  have hul := putT_len M.n key
  generalize putT M.n key = U at HP hul ⊢
  cases ok : putOk M.n key
  · rw [ok] at HP
    go_enter Tryz.func42, Tryz.ntmps42
    go_wp2_with fail
    refine HP.out.mono ?_
    rintro e w1 ⟨a3, c3, rfl, ho, hb⟩
    have S1 := (S.below hb).alloc #[.int .i64 U.t, .int .i64 U.p, .slice a3 U.zs.length c3] 26
    have z1 := hb.size
    clear x0 x1 x2 x3 x4 x5 x6 xz
    go_wp2_with fail
    go_ret
    exact ⟨by simp; omega, .inl ⟨trivial, rfl, S1.turn fun i hi => List.mem_cons_of_mem _ (List.mem_cons_of_mem _ hi)⟩⟩
  · rw [ok] at HP
    go_enter Tryz.func42, Tryz.ntmps42
    go_wp2_with fail
    refine HP.out.mono ?_
    rintro e w1 ⟨a3, c3, rfl, ho, hb⟩
    have S1 := ((S.below hb).own ho).alloc #[.int .i64 U.t, .int .i64 U.p, .slice a3 U.zs.length c3] 26
    have z1 := hb.size
    have zB : B + 1 ≤ w.heap.size := S.sz 0 rfl
    have hl := fun i hi => (S.all i (List.mem_cons_of_mem _ hi)).1
    clear x0 x1 x2 x3 x4 x5 x6 xz
    obtain ⟨x0, x1, x2, x3, x4, x5, x6, xz⟩ := facts7 (S1.cells 2 rfl)
    obtain ⟨f0, f1, f2, f3, f4, f5, f6⟩ := free7 (S1.cells 2 rfl)
    obtain ⟨y0, y1, y2, y3, y4, y5, yz⟩ := facts3 (S1.cells 0 rfl)
    have S2 := S1.go4 2 rfl (.int .i64 U.t) (.int .i64 U.p) (.slice a3 U.zs.length c3) ⟨.inr (by simp [It.box]; omega), .inr (by simp [It.box, It.own]; omega), Far.box hf⟩ hB
    go_wp2_with fail
    go_ret
    exact ⟨by simp only [size_set, World.size_alloc]; omega, .inr ⟨trivial, rfl, a3, c3, w1.heap.size, S2.turn fun i hi => by
      simp only [List.set_cons_succ, List.set_cons_zero, List.mem_cons] at hi ⊢
      rcases hi with h | h | h
      · exact .inr (.inr (.inl h))
      · exact .inr (.inl h)
      · exact .inr (.inr (.inr h))⟩⟩

set_option maxHeartbeats 8000000 in
theorem PutIn_any (M : Mov) (a1 : Option Addr) (c1 : Nat) (a2 : Option Addr) (c2 : Nat) (key : Int) (w : World) (hx1 : M.o.zs.length ≤ 9223372036854775807) (hx2 : M.n.zs.length ≤ 9223372036854775807) (hc : M.o.zs.length ≤ c1) (h1 : IntsAt w a1 M.o.zs) (h2 : IntsAt w a2 M.n.zs) :
    Calls Tryz.prog 21 #[movV M a1 c1 a2 c2, .int .i64 key] w (MovOk (putMT M key) (putMok M key) w) := by
  have S0 := ((((St.start w).read h1).read h2).alloc (movC M a1 c1 a2 c2) 28).alloc movZ 28
  simp only [World.size_alloc] at S0
  obtain ⟨x0, x1, x2, x3, x4, x5, x6, xz⟩ := facts7 (S0.cells 1 rfl)
  go_enter Tryz.func21, Tryz.ntmps21
  go_wp2_with fail
  clear x0 x1 x2 x3 x4 x5 x6 xz
  refine (movingOf_any M a1 c1 a2 c2 _ hx1 hx2 hc (by exact S0.reads 3 rfl) (by exact S0.reads 2 rfl)).mono ?_
  rintro e w1 (⟨hm, rfl, hb⟩ | ⟨hm, B, g1, k1, g2, k2, mid, hi, rfl, hk1, hmid, hmh, hhB, R⟩)
  · have E : Hid (putMok M key = false) := Lib.hid (by simp [putMok, hm])
    have S1 := S0.below hb
    clear S0 hb hm
    obtain ⟨p0, p1, p2, p3, p4, p5, p6, pz⟩ := facts7 (S1.cells 0 rfl)
    obtain ⟨v0, v1, v2, v3, v4, v5, v6⟩ := free7 (S1.cells 0 rfl)
    have SZ := S1.mov7 0 rfl (.int .i64 0) (.int .i64 0) (.slice none 0 0) (.int .i64 0) (.int .i64 0) (.slice none 0 0) (.int .i64 0) (by simp [Far, It.own, It.box, It.read]) (by omega)
    obtain ⟨r0, r1, r2, r3, r4, r5, r6, rz⟩ := facts7 (SZ.cells 0 rfl)
    go_wp2_with fail
    refine bodyPost_ret (v := .tuple #[.agg #[.int .i64 0, .int .i64 0, .slice none 0 0, .int .i64 0, .int .i64 0, .slice none 0 0, .int .i64 0], .bool false]) (by simp [results, Tryz.results21, go_sem, r0, r1, r2, r3, r4, r5, r6]) rfl (movOk_no (putM_no E.out) E.out SZ.old)
  · have EP := Lib.hid (putMok_prog (key := key) hm)
    have EM : Hid (putOk M.n key = true → putM M key = ⟨M.o, putT M.n key, M.x⟩) := Lib.hid fun h => by rw [putM, putT, if_pos h]
    have hr : w1.heap.size ≥ B + 1 := R.sz 0 rfl
    have S1 := S0.more R
    simp only [List.cons_append, List.nil_append, World.size_alloc] at S1 hmid
    clear S0 R hm
    have HT := take_any M B (some ⟨g1, 0, none⟩) k1 (some ⟨g2, 0, none⟩) k2 key S1 (by simp [Far, It.own, It.box, It.read]; omega) (by omega) hx2 (S1.ints 1 rfl)
    have hul := putT_len M.n key
    generalize putT M.n key = U at HT EM hul
    go_wp2_with fail
    refine HT.mono ?_
    rintro e w2 ⟨z2, (⟨ok, rfl, S2⟩ | ⟨ok, rfl, a3, c3, h3, S2⟩)⟩
    · have E : Hid (putMok M key = false) := Lib.hid (by rw [EP.out, ok]; rfl)
      clear S1 HT ok
      obtain ⟨p0, p1, p2, p3, p4, p5, p6, pz⟩ := facts7 (S2.cells 2 rfl)
      obtain ⟨v0, v1, v2, v3, v4, v5, v6⟩ := free7 (S2.cells 2 rfl)
      have SZ := S2.mov7 2 rfl (.int .i64 0) (.int .i64 0) (.slice none 0 0) (.int .i64 0) (.int .i64 0) (.slice none 0 0) (.int .i64 0) (by simp [Far, It.own, It.box, It.read]; omega) (by omega)
      obtain ⟨r0, r1, r2, r3, r4, r5, r6, rz⟩ := facts7 (SZ.cells 2 rfl)
      go_wp2_with fail
      refine bodyPost_ret (v := .tuple #[.agg #[.int .i64 0, .int .i64 0, .slice none 0 0, .int .i64 0, .int .i64 0, .slice none 0 0, .int .i64 0], .bool false]) (by simp [results, Tryz.results21, go_sem, r0, r1, r2, r3, r4, r5, r6]) rfl (movOk_no (putM_no E.out) E.out SZ.old)
    · have EM2 : Hid (putM M key = ⟨M.o, U, M.x⟩) := Lib.hid (EM.out ok)
      have EB : Hid (putMok M key = movB ⟨M.o, U, M.x⟩) := Lib.hid (by rw [EP.out, ok, EM2.out]; rfl)
      have h3z : h3 ≤ w2.heap.size := (S2.all (It.own w1.heap.size h3 a3 U.zs) (by simp)).1
      clear S1 HT EM EP ok
      go_wp2_with fail
      refine (goMove_any ⟨M.o, U, M.x⟩ B (some ⟨g1, 0, none⟩) k1 a3 c3 _ (by exact S2.cells 0 rfl)).mono ?_
      rintro e w3 ⟨rfl, hb⟩
      have S3 := (S2.below hb).alloc (movC ⟨M.o, U, M.x⟩ (some ⟨g1, 0, none⟩) k1 a3 c3) 28
      have z3 := hb.size
      clear S2 hb
      obtain ⟨x0, x1, x2, x3, x4, x5, x6, xz⟩ := facts7 (S3.cells 0 rfl)
      cases hm2 : movB ⟨M.o, U, M.x⟩
      · have E : Hid (putMok M key = false) := Lib.hid (EB.out.trans hm2)
        go_wp2_with fail
        refine (MoveValid_any ⟨M.o, U, M.x⟩ (some ⟨g1, 0, none⟩) k1 a3 c3 _ hx1 (by show U.zs.length ≤ _; omega) hk1 (by exact S3.ints 4 rfl) (by exact S3.ints 2 rfl)).mono ?_
        rw [hm2]
        rintro e w4 ⟨rfl, hb⟩
        have S4 := S3.below hb
        clear x0 x1 x2 x3 x4 x5 x6 xz S3 hb
        obtain ⟨p0, p1, p2, p3, p4, p5, p6, pz⟩ := facts7 (S4.cells 5 rfl)
        obtain ⟨v0, v1, v2, v3, v4, v5, v6⟩ := free7 (S4.cells 5 rfl)
        have SZ := S4.mov7 5 rfl (.int .i64 0) (.int .i64 0) (.slice none 0 0) (.int .i64 0) (.int .i64 0) (.slice none 0 0) (.int .i64 0) (by simp [Far, It.own, It.box, It.read]; omega) (by omega)
        obtain ⟨r0, r1, r2, r3, r4, r5, r6, rz⟩ := facts7 (SZ.cells 5 rfl)
        go_wp2_with fail
        refine bodyPost_ret (v := .tuple #[.agg #[.int .i64 0, .int .i64 0, .slice none 0 0, .int .i64 0, .int .i64 0, .slice none 0 0, .int .i64 0], .bool false]) (by simp [results, Tryz.results21, go_sem, r0, r1, r2, r3, r4, r5, r6]) rfl (movOk_no (putM_no E.out) E.out SZ.old)
      · have E : Hid (putMok M key = true) := Lib.hid (EB.out.trans hm2)
        go_wp2_with fail
        refine (MoveValid_any ⟨M.o, U, M.x⟩ (some ⟨g1, 0, none⟩) k1 a3 c3 _ hx1 (by show U.zs.length ≤ _; omega) hk1 (by exact S3.ints 4 rfl) (by exact S3.ints 2 rfl)).mono ?_
        rw [hm2]
        rintro e w4 ⟨rfl, hb⟩
        have S4 := S3.below hb
        have z4 : w3.heap.size + 1 ≤ w4.heap.size := by have := hb.size; simpa using this
        clear x0 x1 x2 x3 x4 x5 x6 xz S3 hb
        obtain ⟨x0, x1, x2, x3, x4, x5, x6, xz⟩ := facts7 (S4.cells 0 rfl)
        obtain ⟨p0, p1, p2, p3, p4, p5, p6, pz⟩ := facts7 (S4.cells 5 rfl)
        obtain ⟨v0, v1, v2, v3, v4, v5, v6⟩ := free7 (S4.cells 5 rfl)
        have SZ := S4.mov7 5 rfl (.int .i64 M.o.t) (.int .i64 M.o.p) (.slice (some ⟨g1, 0, none⟩) M.o.zs.length k1) (.int .i64 U.t) (.int .i64 U.p) (.slice a3 U.zs.length c3) (.int .i64 M.x) (by simp [Far, It.own, It.box, It.read]; omega) (by omega)
        simp only [List.set_cons_succ, List.set_cons_zero] at SZ
        obtain ⟨r0, r1, r2, r3, r4, r5, r6, rz⟩ := facts7 (SZ.cells 5 rfl)
        go_wp2_with fail
        refine bodyPost_ret (v := .tuple #[movV ⟨M.o, U, M.x⟩ (some ⟨g1, 0, none⟩) k1 a3 c3, .bool true]) (by simp [results, Tryz.results21, go_sem, r0, r1, r2, r3, r4, r5, r6]) rfl ?_
        rw [putM_yes E.out, E.out, EM2.out]
        refine ⟨_, k1, a3, c3, _, rfl, hk1, SZ.two 2 4 rfl rfl (by omega) (by omega) (by omega) ?_⟩
        simp only [size_set]
        omega

end Go.Proofs.YtjhdlbcgnhkbhaaGreat

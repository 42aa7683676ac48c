/-
  PutIn of the model.
-/
import Derived.Test.YtjhdlbcgnhkbhaaGreatMoveC
namespace Go.Proofs.YtjhdlbcgnhkbhaaGreat
open Go.RowKit

set_option maxHeartbeats 8000000 in
theorem specPutIn_any (M : Mov) (a1 : Option Addr) (c1 : Nat) (a2 : Option Addr) (c2 : Nat) (key : Int) (w : World) (hx1 : M.o.zs.length ≤ 9223372036854775807) (hx2 : M.n.zs.length ≤ 9223372036854775807) (h1 : IntsAt w a1 M.o.zs) (h2 : IntsAt w a2 M.n.zs) :
    Calls Tryz.prog 20 #[movV M a1 c1 a2 c2, .int .i64 key] w (MovOk (putMT M key) (putMok M key) w) := by
  have S0 := ((((St.start w).read h1).read h2).alloc (movC M a1 c1 a2 c2) 28).alloc movZ 28
  simp only [World.size_alloc] at S0
  obtain ⟨x0, x1, x2, x3, x4, x5, x6, xz⟩ := facts7 (S0.cells 1 rfl)
  obtain ⟨pl, hpl⟩ : ∃ p, placeI M.n key = p := ⟨_, rfl⟩
  have hdr : Hid (∀ b, dropMok M key = b ↔ (inNew M key || inOld M key) = b) := Lib.hid fun b => Iff.rfl
  obtain ⟨th, hth⟩ : ∃ t, dropMok M key = t := ⟨_, rfl⟩
  have HF := Lib.hid hth
  cases hm : movB M
  · have E : Hid (putMok M key = false) := Lib.hid (by simp [putMok, hm])
    by_cases hp : 0 ≤ pl
    · have d : decide (0 ≤ pl) = true := decide_eq_true hp
      go_enter Tryz.func20, Tryz.ntmps20
      go_wp2_with fail
      clear x0 x1 x2 x3 x4 x5 x6 xz
      refine (specFindIn_any M a1 c1 a2 c2 key _ hx1 hx2 (by exact S0.reads 3 rfl) (by exact S0.reads 2 rfl)).mono ?_
      rintro e w1 ⟨rfl, hb⟩
      have S1 := S0.below hb
      clear S0 hb
      obtain ⟨x0, x1, x2, x3, x4, x5, x6, xz⟩ := facts7 (S1.cells 1 rfl)
      go_wp2_with fail
      refine (specPlaceFor_any M.n a2 c2 key _ hx2 (by exact S1.reads 2 rfl)).mono ?_
      rw [hpl]
      rintro e w2 ⟨rfl, hb⟩
      have S2 := S1.below hb
      clear S1 hb x0 x1 x2 x3 x4 x5 x6 xz
      obtain ⟨x0, x1, x2, x3, x4, x5, x6, xz⟩ := facts7 (S2.cells 1 rfl)
      go_wp2_with fail
      refine (specMoveValid_any M a1 c1 a2 c2 _ hx1 hx2 (by exact S2.reads 3 rfl) (by exact S2.reads 2 rfl)).mono ?_
      rw [hm]
      rintro e w3 ⟨rfl, hb⟩
      have S3 := S2.below hb
      clear S2 hb x0 x1 x2 x3 x4 x5 x6 xz
      obtain ⟨x0, x1, x2, x3, x4, x5, x6, xz⟩ := facts7 (S3.cells 1 rfl)
      obtain ⟨p0, p1, p2, p3, p4, p5, p6, pz⟩ := facts7 (S3.cells 0 rfl)
      obtain ⟨v0, v1, v2, v3, v4, v5, v6⟩ := free7 (S3.cells 0 rfl)
      have SZ := S3.mov7 0 rfl (.int .i64 0) (.int .i64 0) (.slice none 0 0) (.int .i64 0) (.int .i64 0) (.slice none 0 0) (.int .i64 0) (by simp [Far, It.own, It.box, It.read]) (by omega)
      obtain ⟨r0, r1, r2, r3, r4, r5, r6, rz⟩ := facts7 (SZ.cells 0 rfl)
      go_wp2_with fail
      refine bodyPost_ret (v := .tuple #[.agg #[.int .i64 0, .int .i64 0, .slice none 0 0, .int .i64 0, .int .i64 0, .slice none 0 0, .int .i64 0], .bool false]) (by simp [results, Tryz.results20, go_sem, r0, r1, r2, r3, r4, r5, r6]) rfl (movOk_no (putM_no E.out) E.out SZ.old)
    · have d : decide (0 ≤ pl) = false := decide_eq_false hp
      go_enter Tryz.func20, Tryz.ntmps20
      go_wp2_with fail
      clear x0 x1 x2 x3 x4 x5 x6 xz
      refine (specFindIn_any M a1 c1 a2 c2 key _ hx1 hx2 (by exact S0.reads 3 rfl) (by exact S0.reads 2 rfl)).mono ?_
      rintro e w1 ⟨rfl, hb⟩
      have S1 := S0.below hb
      clear S0 hb
      obtain ⟨x0, x1, x2, x3, x4, x5, x6, xz⟩ := facts7 (S1.cells 1 rfl)
      go_wp2_with fail
      refine (specPlaceFor_any M.n a2 c2 key _ hx2 (by exact S1.reads 2 rfl)).mono ?_
      rw [hpl]
      rintro e w2 ⟨rfl, hb⟩
      have S2 := S1.below hb
      clear S1 hb x0 x1 x2 x3 x4 x5 x6 xz
      obtain ⟨x0, x1, x2, x3, x4, x5, x6, xz⟩ := facts7 (S2.cells 1 rfl)
      go_wp2_with fail
      refine (specMoveValid_any M a1 c1 a2 c2 _ hx1 hx2 (by exact S2.reads 3 rfl) (by exact S2.reads 2 rfl)).mono ?_
      rw [hm]
      rintro e w3 ⟨rfl, hb⟩
      have S3 := S2.below hb
      clear S2 hb x0 x1 x2 x3 x4 x5 x6 xz
      obtain ⟨x0, x1, x2, x3, x4, x5, x6, xz⟩ := facts7 (S3.cells 1 rfl)
      obtain ⟨p0, p1, p2, p3, p4, p5, p6, pz⟩ := facts7 (S3.cells 0 rfl)
      obtain ⟨v0, v1, v2, v3, v4, v5, v6⟩ := free7 (S3.cells 0 rfl)
      have SZ := S3.mov7 0 rfl (.int .i64 0) (.int .i64 0) (.slice none 0 0) (.int .i64 0) (.int .i64 0) (.slice none 0 0) (.int .i64 0) (by simp [Far, It.own, It.box, It.read]) (by omega)
      obtain ⟨r0, r1, r2, r3, r4, r5, r6, rz⟩ := facts7 (SZ.cells 0 rfl)
      go_wp2_with fail
      refine bodyPost_ret (v := .tuple #[.agg #[.int .i64 0, .int .i64 0, .slice none 0 0, .int .i64 0, .int .i64 0, .slice none 0 0, .int .i64 0], .bool false]) (by simp [results, Tryz.results20, go_sem, r0, r1, r2, r3, r4, r5, r6]) rfl (movOk_no (putM_no E.out) E.out SZ.old)
  obtain ⟨hs1, hs2, -, -, -, hv1, hv2⟩ := movB_parts hm
  obtain ⟨⟨l1, l2⟩, -⟩ := valid_facts hv1
  obtain ⟨⟨l3, l4⟩, -⟩ := valid_facts hv2
  cases th
  · by_cases hp : 0 ≤ pl
    case neg =>
      have E : Hid (putMok M key = false) := Lib.hid (by rw [← hpl] at hp; simp [putMok, hp])
      have d : decide (0 ≤ pl) = false := decide_eq_false hp
      go_enter Tryz.func20, Tryz.ntmps20
      go_wp2_with fail
      clear x0 x1 x2 x3 x4 x5 x6 xz
      refine (specFindIn_any M a1 c1 a2 c2 key _ hx1 hx2 (by exact S0.reads 3 rfl) (by exact S0.reads 2 rfl)).mono ?_
      rintro e w1 ⟨rfl, hb⟩
      have S1 := S0.below hb
      clear S0 hb
      obtain ⟨x0, x1, x2, x3, x4, x5, x6, xz⟩ := facts7 (S1.cells 1 rfl)
      go_wp2_with fail
      refine (specPlaceFor_any M.n a2 c2 key _ hx2 (by exact S1.reads 2 rfl)).mono ?_
      rw [hpl]
      rintro e w2 ⟨rfl, hb⟩
      have S2 := S1.below hb
      clear S1 hb x0 x1 x2 x3 x4 x5 x6 xz
      obtain ⟨x0, x1, x2, x3, x4, x5, x6, xz⟩ := facts7 (S2.cells 1 rfl)
      go_wp2_with fail
      refine (specMoveValid_any M a1 c1 a2 c2 _ hx1 hx2 (by exact S2.reads 3 rfl) (by exact S2.reads 2 rfl)).mono ?_
      rw [hm]
      rintro e w3 ⟨rfl, hb⟩
      have S3 := S2.below hb
      clear S2 hb x0 x1 x2 x3 x4 x5 x6 xz
      obtain ⟨x0, x1, x2, x3, x4, x5, x6, xz⟩ := facts7 (S3.cells 1 rfl)
      obtain ⟨p0, p1, p2, p3, p4, p5, p6, pz⟩ := facts7 (S3.cells 0 rfl)
      obtain ⟨v0, v1, v2, v3, v4, v5, v6⟩ := free7 (S3.cells 0 rfl)
      have SZ := S3.mov7 0 rfl (.int .i64 0) (.int .i64 0) (.slice none 0 0) (.int .i64 0) (.int .i64 0) (.slice none 0 0) (.int .i64 0) (by simp [Far, It.own, It.box, It.read]) (by omega)
      obtain ⟨r0, r1, r2, r3, r4, r5, r6, rz⟩ := facts7 (SZ.cells 0 rfl)
      go_wp2_with fail
      refine bodyPost_ret (v := .tuple #[.agg #[.int .i64 0, .int .i64 0, .slice none 0 0, .int .i64 0, .int .i64 0, .slice none 0 0, .int .i64 0], .bool false]) (by simp [results, Tryz.results20, go_sem, r0, r1, r2, r3, r4, r5, r6]) rfl (movOk_no (putM_no E.out) E.out SZ.old)
    have d : decide (0 ≤ pl) = true := decide_eq_true hp
    have hlt : pl.toNat < M.n.zs.length := by rw [← hpl] at hp ⊢; exact putPlace_lt hp
    obtain ⟨k, rfl⟩ : ∃ k : Nat, pl = k := ⟨pl.toNat, by omega⟩
    rw [Int.toNat_natCast] at hlt
    have HM : Hid (putM M key = ⟨M.o, putAt M.n k key, M.x⟩) := Lib.hid (by rw [putM, hpl, Int.toNat_natCast])
    have EB : Hid (putMok M key = movB ⟨M.o, putAt M.n k key, M.x⟩) := Lib.hid (by
      have := (hdr.out _).1 HF.out
      rw [putMok, hm, this, HM.out, hpl, d]
      simp)
    have hul : (putAt M.n k key).zs.length = M.n.zs.length := putAt_len _ _ _
    go_enter Tryz.func20, Tryz.ntmps20
    go_wp2_with fail
    clear x0 x1 x2 x3 x4 x5 x6 xz
    refine (specFindIn_any M a1 c1 a2 c2 key _ hx1 hx2 (by exact S0.reads 3 rfl) (by exact S0.reads 2 rfl)).mono ?_
    rintro e w1 ⟨rfl, hb⟩
    have S1 := S0.below hb
    clear S0 hb
    obtain ⟨x0, x1, x2, x3, x4, x5, x6, xz⟩ := facts7 (S1.cells 1 rfl)
    go_wp2_with fail
    refine (specPlaceFor_any M.n a2 c2 key _ hx2 (by exact S1.reads 2 rfl)).mono ?_
    rw [hpl]
    rintro e w2 ⟨rfl, hb⟩
    have S2 := S1.below hb
    clear S1 hb x0 x1 x2 x3 x4 x5 x6 xz
    obtain ⟨x0, x1, x2, x3, x4, x5, x6, xz⟩ := facts7 (S2.cells 1 rfl)
    go_wp2_with fail
    refine (specMoveValid_any M a1 c1 a2 c2 _ hx1 hx2 (by exact S2.reads 3 rfl) (by exact S2.reads 2 rfl)).mono ?_
    rw [hm]
    rintro e w3 ⟨rfl, hb⟩
    have S3 := S2.below hb
    clear S2 hb x0 x1 x2 x3 x4 x5 x6 xz
    obtain ⟨x0, x1, x2, x3, x4, x5, x6, xz⟩ := facts7 (S3.cells 1 rfl)
    go_wp2_with fail
    clear x0 x1 x2 x3 x4 x5 x6 xz
    refine (l8Copy_any M a1 c1 a2 c2 _ l1 (by omega) l3 (by omega) (by exact S3.reads 3 rfl) (by exact S3.reads 2 rfl)).mono ?_
    rintro e w4 ⟨b1, d1, b2, d2, mid, rfl, hd, hmid, R⟩
    have z4 := R.size
    have v4 : mid ≤ w4.heap.size := (R.all _ (List.mem_cons_of_mem _ (List.mem_cons_self ..))).1
    have z3 := S3.size
    have z3' : w.heap.size + 1 + 1 ≤ w3.heap.size := S3.sz 0 rfl
    have S3' := S3.more R
    simp only [List.cons_append, List.nil_append] at S3'
    have S4 := S3'.alloc (movC M b1 d1 b2 d2) 28
    clear S3 R
    obtain ⟨bb, oo, rfl, hc, hf⟩ := (S4.owns 1 rfl).2 (by omega)
    have hbb := (S4.get 1 rfl).2 _ rfl
    have hbm := (S4.owns 1 rfl).1 _ rfl
    simp only at hbb hbm
    have q := hc k hlt
    have f := hf k hlt
    clear hc hf
    have n1 : bb ≠ w4.heap.size := by omega
    have n2 : bb ≠ w.heap.size + 1 := by omega
    have k0 : (0 : Int) ≤ (k : Int) := by omega
    have k1 : (k : Int) < (M.n.zs.length : Int) := by omega
    obtain ⟨x0, x1, x2, x3, x4, x5, x6, xz⟩ := facts7 (S4.cells 0 rfl)
    have S5' := S3'.storeAt 0 k hlt rfl (by simp [Far, It.own, It.box, It.read]; omega) (by omega) key
    simp only [List.set_cons_succ, List.set_cons_zero] at S5'
    have S5 := S5'.alloc (movC M b1 d1 (some ⟨bb, oo, none⟩) d2) 28
    rw [size_set] at S5
    clear S3' S5'
    obtain ⟨y0, y1, y2, y3, y4, y5, y6, yz⟩ := facts7 (S5.cells 0 rfl)
    have HMV := specMoveValid_any ⟨M.o, putAt M.n k key, M.x⟩ b1 d1 (some ⟨bb, oo, none⟩) d2 _ hx1 (by show (putAt M.n k key).zs.length ≤ _; omega) (S5.ints 2 rfl) (S5.ints 1 rfl)
    rw [movV_put] at HMV
    have HMV := Lib.hid HMV
    cases hm2 : movB ⟨M.o, putAt M.n k key, M.x⟩
    · have E : Hid (putMok M key = false) := Lib.hid (EB.out.trans hm2)
      rw [hm2] at HMV
      go_wp2_with fail
      refine HMV.out.mono ?_
      rintro e w5 ⟨rfl, hb⟩
      have S6 := S5.below hb
      clear x0 x1 x2 x3 x4 x5 x6 xz y0 y1 y2 y3 y4 y5 y6 yz
      obtain ⟨p0, p1, p2, p3, p4, p5, p6, pz⟩ := facts7 (S6.cells 3 rfl)
      obtain ⟨v0, v1, v2, v3, v4, v5, v6⟩ := free7 (S6.cells 3 rfl)
      have SZ := S6.mov7 3 rfl (.int .i64 0) (.int .i64 0) (.slice none 0 0) (.int .i64 0) (.int .i64 0) (.slice none 0 0) (.int .i64 0) (by simp [Far, It.own, It.box, It.read]; omega) (by omega)
      obtain ⟨r0, r1, r2, r3, r4, r5, r6, rz⟩ := facts7 (SZ.cells 3 rfl)
      go_wp2_with fail
      refine bodyPost_ret (v := .tuple #[.agg #[.int .i64 0, .int .i64 0, .slice none 0 0, .int .i64 0, .int .i64 0, .slice none 0 0, .int .i64 0], .bool false]) (by simp [results, Tryz.results20, go_sem, r0, r1, r2, r3, r4, r5, r6]) rfl (movOk_no (putM_no E.out) E.out SZ.old)
    · have E : Hid (putMok M key = true) := Lib.hid (EB.out.trans hm2)
      rw [hm2] at HMV
      go_wp2_with fail
      refine HMV.out.mono ?_
      rintro e w5 ⟨rfl, hb⟩
      have S6 := S5.below hb
      have z6 := hb.size
      rw [World.size_alloc, size_set] at z6
      clear x0 x1 x2 x3 x4 x5 x6 xz y0 y1 y2 y3 y4 y5 y6 yz
      obtain ⟨x0, x1, x2, x3, x4, x5, x6, xz⟩ := facts7 (S6.cells 0 rfl)
      obtain ⟨p0, p1, p2, p3, p4, p5, p6, pz⟩ := facts7 (S6.cells 3 rfl)
      obtain ⟨v0, v1, v2, v3, v4, v5, v6⟩ := free7 (S6.cells 3 rfl)
      have SZ := S6.mov7 3 rfl (.int .i64 M.o.t) (.int .i64 M.o.p) (.slice b1 M.o.zs.length d1) (.int .i64 M.n.t) (.int .i64 M.n.p) (.slice (some ⟨bb, oo, none⟩) M.n.zs.length d2) (.int .i64 M.x) (by simp [Far, It.own, It.box, It.read]; omega) (by omega)
      simp only [List.set_cons_succ, List.set_cons_zero] at SZ
      obtain ⟨r0, r1, r2, r3, r4, r5, r6, rz⟩ := facts7 (SZ.cells 3 rfl)
      go_wp2_with fail
      refine bodyPost_ret (v := .tuple #[movV M b1 d1 (some ⟨bb, oo, none⟩) d2, .bool true]) (by simp [results, Tryz.results20, go_sem, r0, r1, r2, r3, r4, r5, r6]) rfl ?_
      rw [putM_yes E.out, E.out, HM.out]
      refine ⟨b1, d1, _, d2, _, by rw [movV_put], hd, SZ.two 1 2 rfl rfl (by omega) (Nat.le_refl _) (by omega) ?_⟩
      simp only [size_set]
      omega
  · have E : Hid (putMok M key = false) := Lib.hid (by have := (hdr.out _).1 HF.out; rw [putMok, this]; simp)
    by_cases hp : 0 ≤ pl
    · have d : decide (0 ≤ pl) = true := decide_eq_true hp
      go_enter Tryz.func20, Tryz.ntmps20
      go_wp2_with fail
      clear x0 x1 x2 x3 x4 x5 x6 xz
      refine (specFindIn_any M a1 c1 a2 c2 key _ hx1 hx2 (by exact S0.reads 3 rfl) (by exact S0.reads 2 rfl)).mono ?_
      rintro e w1 ⟨rfl, hb⟩
      have S1 := S0.below hb
      clear S0 hb
      obtain ⟨x0, x1, x2, x3, x4, x5, x6, xz⟩ := facts7 (S1.cells 1 rfl)
      go_wp2_with fail
      refine (specPlaceFor_any M.n a2 c2 key _ hx2 (by exact S1.reads 2 rfl)).mono ?_
      rw [hpl]
      rintro e w2 ⟨rfl, hb⟩
      have S2 := S1.below hb
      clear S1 hb x0 x1 x2 x3 x4 x5 x6 xz
      obtain ⟨x0, x1, x2, x3, x4, x5, x6, xz⟩ := facts7 (S2.cells 1 rfl)
      go_wp2_with fail
      refine (specMoveValid_any M a1 c1 a2 c2 _ hx1 hx2 (by exact S2.reads 3 rfl) (by exact S2.reads 2 rfl)).mono ?_
      rw [hm]
      rintro e w3 ⟨rfl, hb⟩
      have S3 := S2.below hb
      clear S2 hb x0 x1 x2 x3 x4 x5 x6 xz
      obtain ⟨x0, x1, x2, x3, x4, x5, x6, xz⟩ := facts7 (S3.cells 1 rfl)
      obtain ⟨p0, p1, p2, p3, p4, p5, p6, pz⟩ := facts7 (S3.cells 0 rfl)
      obtain ⟨v0, v1, v2, v3, v4, v5, v6⟩ := free7 (S3.cells 0 rfl)
      have SZ := S3.mov7 0 rfl (.int .i64 0) (.int .i64 0) (.slice none 0 0) (.int .i64 0) (.int .i64 0) (.slice none 0 0) (.int .i64 0) (by simp [Far, It.own, It.box, It.read]) (by omega)
      obtain ⟨r0, r1, r2, r3, r4, r5, r6, rz⟩ := facts7 (SZ.cells 0 rfl)
      go_wp2_with fail
      refine bodyPost_ret (v := .tuple #[.agg #[.int .i64 0, .int .i64 0, .slice none 0 0, .int .i64 0, .int .i64 0, .slice none 0 0, .int .i64 0], .bool false]) (by simp [results, Tryz.results20, go_sem, r0, r1, r2, r3, r4, r5, r6]) rfl (movOk_no (putM_no E.out) E.out SZ.old)
    · have d : decide (0 ≤ pl) = false := decide_eq_false hp
      go_enter Tryz.func20, Tryz.ntmps20
      go_wp2_with fail
      clear x0 x1 x2 x3 x4 x5 x6 xz
      refine (specFindIn_any M a1 c1 a2 c2 key _ hx1 hx2 (by exact S0.reads 3 rfl) (by exact S0.reads 2 rfl)).mono ?_
      rintro e w1 ⟨rfl, hb⟩
      have S1 := S0.below hb
      clear S0 hb
      obtain ⟨x0, x1, x2, x3, x4, x5, x6, xz⟩ := facts7 (S1.cells 1 rfl)
      go_wp2_with fail
      refine (specPlaceFor_any M.n a2 c2 key _ hx2 (by exact S1.reads 2 rfl)).mono ?_
      rw [hpl]
      rintro e w2 ⟨rfl, hb⟩
      have S2 := S1.below hb
      clear S1 hb x0 x1 x2 x3 x4 x5 x6 xz
      obtain ⟨x0, x1, x2, x3, x4, x5, x6, xz⟩ := facts7 (S2.cells 1 rfl)
      go_wp2_with fail
      refine (specMoveValid_any M a1 c1 a2 c2 _ hx1 hx2 (by exact S2.reads 3 rfl) (by exact S2.reads 2 rfl)).mono ?_
      rw [hm]
      rintro e w3 ⟨rfl, hb⟩
      have S3 := S2.below hb
      clear S2 hb x0 x1 x2 x3 x4 x5 x6 xz
      obtain ⟨x0, x1, x2, x3, x4, x5, x6, xz⟩ := facts7 (S3.cells 1 rfl)
      obtain ⟨p0, p1, p2, p3, p4, p5, p6, pz⟩ := facts7 (S3.cells 0 rfl)
      obtain ⟨v0, v1, v2, v3, v4, v5, v6⟩ := free7 (S3.cells 0 rfl)
      have SZ := S3.mov7 0 rfl (.int .i64 0) (.int .i64 0) (.slice none 0 0) (.int .i64 0) (.int .i64 0) (.slice none 0 0) (.int .i64 0) (by simp [Far, It.own, It.box, It.read]) (by omega)
      obtain ⟨r0, r1, r2, r3, r4, r5, r6, rz⟩ := facts7 (SZ.cells 0 rfl)
      go_wp2_with fail
      refine bodyPost_ret (v := .tuple #[.agg #[.int .i64 0, .int .i64 0, .slice none 0 0, .int .i64 0, .int .i64 0, .slice none 0 0, .int .i64 0], .bool false]) (by simp [results, Tryz.results20, go_sem, r0, r1, r2, r3, r4, r5, r6]) rfl (movOk_no (putM_no E.out) E.out SZ.old)

end Go.Proofs.YtjhdlbcgnhkbhaaGreat

/-
  Moves that go on: copies, starts, keys put: the model's.
-/
import Derived.Test.YtjhdlbcgnhkbhaaGreatDoorMoveS
import Derived.Test.YtjhdlbcgnhkbhaaGreatDoorFindS
import Derived.Test.YtjhdlbcgnhkbhaaGreatDoorDrawn
import Derived.Test.YtjhdlbcgnhkbhaaGreatDoorBase
namespace Go.Proofs.YtjhdlbcgnhkbhaaGreatDoor
open Go.RowKit

/-- Where a key is found, as the document tells it. -/
def fndWhere (M : Mov) (key : Int) : Value := if inNew M key then .string "new".toUTF8 else if inOld M key then .string "old".toUTF8 else .string "".toUTF8
def fndSlot (M : Mov) (key : Int) : Int := if inNew M key then findI M.n key else if inOld M key then findI M.o key else -1
def newS : ByteArray := ⟨#[110, 101, 119]⟩
def oldS : ByteArray := ⟨#[111, 108, 100]⟩
def noS : ByteArray := ⟨#[]⟩
def whereS (M : Mov) (key : Int) : ByteArray := if inNew M key then newS else if inOld M key then oldS else noS
theorem where_new {M : Mov} {key : Int} (h : inNew M key = true) : whereS M key = newS ∧ fndSlot M key = findI M.n key := by simp [whereS, fndSlot, h]
theorem where_old {M : Mov} {key : Int} (h1 : inNew M key = false) (h : inOld M key = true) : whereS M key = oldS ∧ fndSlot M key = findI M.o key := by simp [whereS, fndSlot, h, h1]
theorem where_no {M : Mov} {key : Int} (h1 : inNew M key = false) (h : inOld M key = false) : whereS M key = noS ∧ fndSlot M key = -1 := by simp [whereS, fndSlot, h, h1]
/-- What FindIn returns. -/
def FindRes (M : Mov) (key : Int) (w : World) (e : Ending) (w' : World) : Prop :=
  e = .returned (.tuple #[.string (whereS M key), .int .i64 (fndSlot M key), .bool (dropMok M key)]) ∧ Below w.heap.size w w'

set_option maxHeartbeats 2000000 in
theorem specFindIn_any (M : Mov) (a1 : Option Addr) (c1 : Nat) (a2 : Option Addr) (c2 : Nat) (key : Int) (w : World) (hx1 : M.o.zs.length ≤ 9223372036854775807) (hx2 : M.n.zs.length ≤ 9223372036854775807) (h1 : IntsAt w a1 M.o.zs) (h2 : IntsAt w a2 M.n.zs) :
    Calls Tryz.prog 7 #[movV M a1 c1 a2 c2, .int .i64 key] w (FindRes M key w) := by
  have S0 := (((St.start w).read h1).read h2).alloc (movC M a1 c1 a2 c2) 32
  obtain ⟨x0, x1, x2, x3, x4, x5, x6, xz⟩ := facts7 (S0.cells 0 rfl)
  cases hm : movB M
  · have e1 : inNew M key = false := by simp [inNew, hm]
    have e2 : inOld M key = false := by simp [inOld, hm]
    have R : Hid (whereS M key = noS ∧ fndSlot M key = -1 ∧ dropMok M key = false) := Lib.hid ⟨(where_no e1 e2).1, (where_no e1 e2).2, by simp [dropMok, e1, e2]⟩
    clear e1 e2
    go_enter Tryz.func7, Tryz.ntmps7
    go_wp2_with fail
    clear x0 x1 x2 x3 x4 x5 x6 xz
    refine (specMoveValid_any M a1 c1 a2 c2 _ hx1 hx2 (by exact S0.reads 2 rfl) (by exact S0.reads 1 rfl)).mono ?_
    rw [hm]
    rintro e w1 ⟨rfl, hb⟩
    have S1 := S0.below hb
    go_wp2_with fail
    refine bodyPost_ret (v := .tuple #[.string noS, .int .i64 (-1), .bool false]) (by simp [results, Tryz.results7, go_sem, noS]) rfl ⟨?_, S1.old⟩
    rw [R.out.1, R.out.2.1, R.out.2.2]
  cases hk : inB key 0 99
  · have e1 : inNew M key = false := by simp [inNew, hk]
    have e2 : inOld M key = false := by simp [inOld, hk]
    have R : Hid (whereS M key = noS ∧ fndSlot M key = -1 ∧ dropMok M key = false) := Lib.hid ⟨(where_no e1 e2).1, (where_no e1 e2).2, by simp [dropMok, e1, e2]⟩
    clear e1 e2
    go_enter Tryz.func7, Tryz.ntmps7
    go_wp2_with fail
    clear x0 x1 x2 x3 x4 x5 x6 xz
    refine (specMoveValid_any M a1 c1 a2 c2 _ hx1 hx2 (by exact S0.reads 2 rfl) (by exact S0.reads 1 rfl)).mono ?_
    rw [hm]
    rintro e w1 ⟨rfl, hb⟩
    have S1 := S0.below hb
    go_wp2_with (go_at_call 19; refine (l1Key_any _ _).mono ?_; rintro e w' ⟨rfl, rfl⟩; rw [hk])
    refine bodyPost_ret (v := .tuple #[.string noS, .int .i64 (-1), .bool false]) (by simp [results, Tryz.results7, go_sem, noS]) rfl ⟨?_, S1.old⟩
    rw [R.out.1, R.out.2.1, R.out.2.2]
  obtain ⟨hs1, hs2, -, -, -, hv1, hv2⟩ := movB_parts hm
  have K := inB_iff.1 hk
  have HF2 := Lib.hid fun (W : World) (h : IntsAt W a2 M.n.zs) => l2Find_any M.n a2 c2 key W hv2 K.1 K.2 h
  have HF1 := Lib.hid fun (W : World) (h : IntsAt W a1 M.o.zs) => l2Find_any M.o a1 c1 key W hv1 K.1 K.2 h
  have E1 : Hid (inNew M key = decide (0 ≤ findI M.n key)) := Lib.hid (by simp [inNew, hm, hk])
  have E2 : Hid (inOld M key = (!decide (0 ≤ findI M.n key) && decide (0 ≤ findI M.o key))) := Lib.hid (by simp [inOld, hm, hk])
  have E3 : Hid (∀ f, fndSlot M key = f ↔ (if inNew M key then findI M.n key else if inOld M key then findI M.o key else -1) = f) := Lib.hid fun f => Iff.rfl
  generalize findI M.n key = fn at *
  generalize findI M.o key = fo at *
  by_cases h2 : 0 ≤ fn
  · have d2 : decide (0 ≤ fn) = true := decide_eq_true h2
    have e1 : inNew M key = true := E1.out.trans d2
    have R : Hid (whereS M key = newS ∧ fndSlot M key = fn ∧ dropMok M key = true) := Lib.hid ⟨(where_new e1).1, (E3.out _).2 (by rw [if_pos e1]), by simp [dropMok, e1]⟩
    clear e1 E1 E2 E3
    go_enter Tryz.func7, Tryz.ntmps7
    go_wp2_with fail
    clear x0 x1 x2 x3 x4 x5 x6 xz
    refine (specMoveValid_any M a1 c1 a2 c2 _ hx1 hx2 (by exact S0.reads 2 rfl) (by exact S0.reads 1 rfl)).mono ?_
    rw [hm]
    rintro e w1 ⟨rfl, hb⟩
    have S1 := S0.below hb
    clear S0 hb
    obtain ⟨x0, x1, x2, x3, x4, x5, x6, xz⟩ := facts7 (S1.cells 0 rfl)
    go_wp2_with (go_at_call 19; refine (l1Key_any _ _).mono ?_; rintro e w' ⟨rfl, rfl⟩; rw [hk])
    refine (HF2.out _ (by exact S1.reads 1 rfl)).mono ?_
    rintro e w2 ⟨rfl, hb⟩
    have S2 := S1.below hb
    clear S1 hb x0 x1 x2 x3 x4 x5 x6 xz
    go_wp2_with fail
    refine bodyPost_ret (v := .tuple #[.string newS, .int .i64 fn, .bool true]) (by simp [results, Tryz.results7, go_sem, newS]) rfl ⟨?_, S2.old⟩
    rw [R.out.1, R.out.2.1, R.out.2.2]
  · have d2 : decide (0 ≤ fn) = false := decide_eq_false h2
    have e1 : inNew M key = false := E1.out.trans d2
    rw [d2] at E2
    cases d1 : decide (0 ≤ fo)
    · have e2 : inOld M key = false := E2.out.trans (by rw [d1]; rfl)
      have R : Hid (whereS M key = noS ∧ fndSlot M key = -1 ∧ dropMok M key = false) := Lib.hid ⟨(where_no e1 e2).1, (where_no e1 e2).2, by simp [dropMok, e1, e2]⟩
      clear e1 e2 E1 E2 E3
      go_enter Tryz.func7, Tryz.ntmps7
      go_wp2_with fail
      clear x0 x1 x2 x3 x4 x5 x6 xz
      refine (specMoveValid_any M a1 c1 a2 c2 _ hx1 hx2 (by exact S0.reads 2 rfl) (by exact S0.reads 1 rfl)).mono ?_
      rw [hm]
      rintro e w1 ⟨rfl, hb⟩
      have S1 := S0.below hb
      clear S0 hb
      obtain ⟨x0, x1, x2, x3, x4, x5, x6, xz⟩ := facts7 (S1.cells 0 rfl)
      go_wp2_with (go_at_call 19; refine (l1Key_any _ _).mono ?_; rintro e w' ⟨rfl, rfl⟩; rw [hk])
      refine (HF2.out _ (by exact S1.reads 1 rfl)).mono ?_
      rintro e w2 ⟨rfl, hb⟩
      have S2 := S1.below hb
      clear S1 hb x0 x1 x2 x3 x4 x5 x6 xz
      obtain ⟨x0, x1, x2, x3, x4, x5, x6, xz⟩ := facts7 (S2.cells 0 rfl)
      go_wp2_with fail
      refine (HF1.out _ (by exact S2.reads 2 rfl)).mono ?_
      rintro e w3 ⟨rfl, hb⟩
      have S3 := S2.below hb
      clear S2 hb x0 x1 x2 x3 x4 x5 x6 xz
      go_wp2_with fail
      refine bodyPost_ret (v := .tuple #[.string noS, .int .i64 (-1), .bool false]) (by simp [results, Tryz.results7, go_sem, noS]) rfl ⟨?_, S3.old⟩
      rw [R.out.1, R.out.2.1, R.out.2.2]
    · have e2 : inOld M key = true := E2.out.trans (by rw [d1]; rfl)
      have R : Hid (whereS M key = oldS ∧ fndSlot M key = fo ∧ dropMok M key = true) := Lib.hid ⟨(where_old e1 e2).1, (E3.out _).2 (by rw [if_neg (by rw [e1]; simp), if_pos e2]), by simp [dropMok, e1, e2]⟩
      clear e1 e2 E1 E2 E3
      go_enter Tryz.func7, Tryz.ntmps7
      go_wp2_with fail
      clear x0 x1 x2 x3 x4 x5 x6 xz
      refine (specMoveValid_any M a1 c1 a2 c2 _ hx1 hx2 (by exact S0.reads 2 rfl) (by exact S0.reads 1 rfl)).mono ?_
      rw [hm]
      rintro e w1 ⟨rfl, hb⟩
      have S1 := S0.below hb
      clear S0 hb
      obtain ⟨x0, x1, x2, x3, x4, x5, x6, xz⟩ := facts7 (S1.cells 0 rfl)
      go_wp2_with (go_at_call 19; refine (l1Key_any _ _).mono ?_; rintro e w' ⟨rfl, rfl⟩; rw [hk])
      refine (HF2.out _ (by exact S1.reads 1 rfl)).mono ?_
      rintro e w2 ⟨rfl, hb⟩
      have S2 := S1.below hb
      clear S1 hb x0 x1 x2 x3 x4 x5 x6 xz
      obtain ⟨x0, x1, x2, x3, x4, x5, x6, xz⟩ := facts7 (S2.cells 0 rfl)
      go_wp2_with fail
      refine (HF1.out _ (by exact S2.reads 2 rfl)).mono ?_
      rintro e w3 ⟨rfl, hb⟩
      have S3 := S2.below hb
      clear S2 hb x0 x1 x2 x3 x4 x5 x6 xz
      go_wp2_with fail
      refine bodyPost_ret (v := .tuple #[.string oldS, .int .i64 fo, .bool true]) (by simp [results, Tryz.results7, go_sem, oldS]) rfl ⟨?_, S3.old⟩
      rw [R.out.1, R.out.2.1, R.out.2.2]

set_option maxHeartbeats 4000000 in
theorem l8Copy_any (M : Mov) (a1 : Option Addr) (c1 : Nat) (a2 : Option Addr) (c2 : Nat) (w : World) (l1 : 1 ≤ M.o.zs.length) (l2 : M.o.zs.length ≤ 100) (l3 : 1 ≤ M.n.zs.length) (l4 : M.n.zs.length ≤ 100) (h1 : IntsAt w a1 M.o.zs) (h2 : IntsAt w a2 M.n.zs) :
    Calls Tryz.prog 25 #[movV M a1 c1 a2 c2] w (MovRes M w) := by
  have S0 := ((((St.start w).read h1).read h2).alloc (movC M a1 c1 a2 c2) 32).alloc movZ 32
  simp only [World.size_alloc] at S0
  have X0 := S0.seven 1 rfl
  go_enter Tryz.func25, Tryz.ntmps25
  go_wp2_with fail
  go_region_held3 (fun w' => w'.cell? ⟨w.heap.size, 0, none⟩ = some (.int .i64 M.o.t) ∧ w'.cell? ⟨w.heap.size, 1, none⟩ = some (.int .i64 M.o.p) ∧ w'.cell? ⟨w.heap.size, 2, none⟩ = some (.slice a1 M.o.zs.length c1) ∧ w'.cell? ⟨w.heap.size, 3, none⟩ = some (.int .i64 M.n.t) ∧ w'.cell? ⟨w.heap.size, 4, none⟩ = some (.int .i64 M.n.p) ∧ w'.cell? ⟨w.heap.size, 5, none⟩ = some (.slice a2 M.n.zs.length c2) ∧ w'.cell? ⟨w.heap.size, 6, none⟩ = some (.int .i64 M.x))
    (first
      | (with_reducible exact X3)
      | (with_reducible exact X2)
      | (with_reducible exact X1)
      | exact X0)
    (first
      | (have HA := SA; go_at_call 48; refine (l1Copy_cap M.n a2 c2 _ l3 l4 (by exact SA.reads 3 rfl)).mono ?_; rintro e wb ⟨g2, k2, rfl, hk2, ho, hb⟩; have SB := (SA.below hb).own ho; have z2 := hb.size; clear ho hb HA; have X2 := SB.seven 3 rfl; obtain ⟨y0, y1, y2, y3, y4, y5, y6, yz⟩ := facts7 (SB.cells 2 rfl); obtain ⟨f0, f1, f2, f3, f4, f5, f6⟩ := free7 (SB.cells 2 rfl); have SC := SB.mov7 2 rfl (.int .i64 M.o.t) (.int .i64 M.o.p) (.slice (some ⟨g1, 0, none⟩) M.o.zs.length k1) (.int .i64 M.n.t) (.int .i64 M.n.p) (.slice (some ⟨g2, 0, none⟩) M.n.zs.length k2) (.int .i64 M.x) (by simp [Far, It.own, It.box, It.read]; omega) (by omega); simp only [List.set_cons_succ, List.set_cons_zero] at SC; have X3 := SC.seven 3 rfl)
      | (go_at_call 48; refine (l1Copy_cap M.o a1 c1 _ l1 l2 (by exact S0.drew.reads 3 rfl)).mono ?_; rintro e wa ⟨g1, k1, rfl, hk1, ho, hb⟩; have SA := (S0.drew.below hb).own ho; have z1 := hb.size; simp only [World.size_alloc, World.size_drew] at z1 SA; clear ho hb; have X1 := SA.seven 2 rfl))
  obtain ⟨r0, r1, r2, r3, r4, r5, r6, rz⟩ := facts7 (SC.cells 2 rfl)
  clear X0 X1 X2 X3 y0 y1 y2 y3 y4 y5 y6 yz f0 f1 f2 f3 f4 f5 f6 S0 SA SB
  go_wp2_with fail
  refine bodyPost_ret (v := movV M (some ⟨g1, 0, none⟩) k1 (some ⟨g2, 0, none⟩) k2) (by simp [results, Tryz.results25, go_sem, r0, r1, r2, r3, r4, r5, r6]) rfl ⟨_, k1, _, k2, _, rfl, hk1, SC.two 0 1 rfl rfl (by omega) (Nat.le_refl _) (by omega) ?_⟩
  simp [World.setCell]; omega

theorem movOk_no {M : Mov} {ok : Bool} {w w' : World} (h1 : M = zeroM) (h2 : ok = false) (hb : Below w.heap.size w w') : MovOk M ok w (.returned (.tuple #[.agg #[.int .i64 0, .int .i64 0, .slice none 0 0, .int .i64 0, .int .i64 0, .slice none 0 0, .int .i64 0], .bool false])) w' := by
  subst h1 h2
  refine ⟨none, 0, none, 0, w.heap.size, rfl, Nat.le_refl _, Nat.le_refl _, hb, fun i hi => ?_⟩
  simp only [List.mem_cons, List.not_mem_nil, or_false] at hi
  rcases hi with rfl | rfl
  · exact ⟨Nat.le_refl _, OwnInts.nil _ _, fun p hp => by cases hp⟩
  · exact ⟨hb.size, OwnInts.nil _ _, fun p hp => by cases hp⟩
theorem start_no {T : Tab} {size : Int} (h : startOk T size = false) : startMT T size = zeroM := by simp [startMT, h]
theorem start_yes {T : Tab} {size : Int} (h : startOk T size = true) : startMT T size = startM T size := by simp [startMT, h]

theorem putM_no {M : Mov} {key : Int} (h : putMok M key = false) : putMT M key = zeroM := by simp [putMT, h]
theorem putM_yes {M : Mov} {key : Int} (h : putMok M key = true) : putMT M key = putM M key := by simp [putMT, h]
theorem zeros_any {w : World} : (movZ : Array Value) = movZ := rfl

end Go.Proofs.YtjhdlbcgnhkbhaaGreatDoor

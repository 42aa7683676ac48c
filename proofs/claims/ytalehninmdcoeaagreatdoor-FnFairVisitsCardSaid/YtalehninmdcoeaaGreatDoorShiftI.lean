/-
  DropShift and MovesBy, of the program and of the model.
-/
import Derived.Test.YtalehninmdcoeaaGreatDoorShelf
import Derived.Test.YtalehninmdcoeaaGreatDoorDrop
import Derived.Test.YtalehninmdcoeaaGreatDoorWithout
import Derived.Test.YtalehninmdcoeaaGreatDoorFindI
import Derived.Test.YtalehninmdcoeaaGreatDoorLostI
import Derived.Test.YtalehninmdcoeaaGreatDoorCopyRow
import Derived.Test.YtalehninmdcoeaaGreatDoorShiftIt
import Derived.Test.YtalehninmdcoeaaGreatDoorCollectW
namespace Go.Proofs.YtalehninmdcoeaaGreatDoor
open Go.RowKit

theorem shiftT_len (T : Tab) (key : Int) : (shiftT T key).zs.length ≤ 16 := by
  unfold shiftT
  split
  · rename_i h
    obtain ⟨k, D⟩ := shift_says h
    obtain rfl : (findOf T key).toNat = k := by rw [D.find]; simp
    have h1 := D.left.len
    have h2 := (valid_facts D.val).1.2
    show (shiftZ T T.zs _).2.length ≤ 16
    omega
  · simp
theorem shiftL_len (T : Tab) (key : Int) : (shiftL T key).length ≤ 1000 := by
  unfold shiftL
  split
  · rename_i h
    obtain ⟨k, D⟩ := shift_says h
    obtain rfl : (findOf T key).toNat = k := by rw [D.find]; simp
    have := shiftR_len D.hole
    show (shiftR T _ _ 1).1.length ≤ 1000
    omega
  · simp
theorem shiftT_no {T : Tab} {key : Int} (h : shiftOk T key = false) : shiftT T key = ⟨0, 0, []⟩ ∧ shiftL T key = [] := by simp [shiftT, shiftL, h]
theorem shiftT_yes {T : Tab} {key : Int} {k : Nat} (h : shiftOk T key = true) (hk : findOf T key = k) : shiftT T key = tab T (shiftZ T T.zs k).2 ∧ shiftL T key = (shiftZ T T.zs k).1 := by
  unfold shiftT shiftL
  rw [if_pos h, if_pos h, hk]
  exact ⟨rfl, rfl⟩

set_option maxHeartbeats 1000000 in
theorem isPlain_any (T : Tab) (a : Option Addr) (c : Nat) (w : World) (hx : T.zs.length ≤ 9223372036854775807) (h1 : IntsAt w a T.zs) :
    Calls Tryz.prog 74 #[tabV T a c] w fun e w' => e = .returned (.bool (plainB T)) ∧ Below w.heap.size w w' := by
  have S0 := tabBox c 25 h1
  have HP : Hid (plainB T = (soundB T && !decide (-2 ∈ T.zs))) := Lib.hid rfl
  cases hs : soundB T
  · go_enter Tryz.func74, Tryz.ntmps74
    go_wp2_with fail
    refine (IsSound_any T a c _ hx (by exact S0.reads 1 rfl)).mono ?_
    rw [hs]
    rintro e w1 ⟨rfl, hb⟩
    have S1 := S0.below hb
    go_wp2
    go_ret
    exact ⟨by rw [HP.out, hs]; rfl, S1.old⟩
  · go_enter Tryz.func74, Tryz.ntmps74
    go_wp2_with fail
    refine (IsSound_any T a c _ hx (by exact S0.reads 1 rfl)).mono ?_
    rw [hs]
    rintro e w1 ⟨rfl, hb⟩
    have S1 := S0.below hb
    clear S0 hb
    obtain ⟨x0, x1, x2, x3, x4, x5, xz⟩ := facts3 (S1.cells 0 rfl)
    go_wp2_with fail
    refine (contains_any T.zs a c (-2) _ hx (by exact S1.reads 1 rfl)).mono ?_
    rintro e w2 ⟨rfl, rfl⟩
    cases hd : decide (-2 ∈ T.zs)
    · go_wp2
      go_ret
      exact ⟨by rw [HP.out, hs, hd]; rfl, S1.old⟩
    · go_wp2
      go_ret
      exact ⟨by rw [HP.out, hs, hd]; rfl, S1.old⟩

set_option maxHeartbeats 1000000 in
theorem l5Plain_any (T : Tab) (a : Option Addr) (c : Nat) (w : World) (hx : T.zs.length ≤ 9223372036854775807) (h1 : IntsAt w a T.zs) :
    Calls Tryz.prog 70 #[tabV T a c] w fun e w' => e = .returned (.bool (plainB T)) ∧ Below w.heap.size w w' := by
  have S0 := tabBox c 25 h1
  have HP : Hid (plainB T = (soundB T && decide (fnd T.zs (-2) < 0))) := Lib.hid (by
    unfold plainB
    congr 1
    rw [Bool.eq_iff_iff]
    simp only [Bool.not_eq_true', decide_eq_false_iff_not, decide_eq_true_eq]
    rcases fnd_cases T.zs (-2) with ⟨e, h⟩ | ⟨k, hk, e, h, _⟩
    · rw [e]
      exact ⟨fun _ => by omega, fun _ hm => by obtain ⟨i, hi, e2⟩ := mem_nth hm; exact h i hi e2⟩
    · rw [e]
      exact ⟨fun hn => absurd (by rw [← h]; exact nth_mem hk) hn, fun h2 => by omega⟩)
  cases hs : soundB T
  · go_enter Tryz.func70, Tryz.ntmps70
    go_wp2_with fail
    refine (specIsSound_any T a c _ hx (by exact S0.reads 1 rfl)).mono ?_
    rw [hs]
    rintro e w1 ⟨rfl, hb⟩
    have S1 := S0.below hb
    go_wp2
    go_ret
    exact ⟨by rw [HP.out, hs]; rfl, S1.old⟩
  · go_enter Tryz.func70, Tryz.ntmps70
    go_wp2_with fail
    refine (specIsSound_any T a c _ hx (by exact S0.reads 1 rfl)).mono ?_
    rw [hs]
    rintro e w1 ⟨rfl, hb⟩
    have S1 := S0.below hb
    clear S0 hb
    obtain ⟨x0, x1, x2, x3, x4, x5, xz⟩ := facts3 (S1.cells 0 rfl)
    go_wp2_with fail
    refine (l1Find_any a c T.zs (-2) _ hx (by exact S1.reads 1 rfl)).mono ?_
    rintro e w2 ⟨rfl, rfl⟩
    generalize fnd T.zs (-2) = m at HP ⊢
    go_wp2
    go_ret
    exact ⟨by rw [HP.out, hs]; rfl, S1.old⟩

/-- What shiftOut answers. -/
def ShiftRes (T : Tab) (key : Int) (w : World) (e : Ending) (w' : World) : Prop :=
  ∃ a c a2 c2, e = .returned (.tuple #[tabV (shiftT T key) a c, .slice a2 (shiftL T key).length c2, .bool (shiftOk T key)]) ∧ OwnInts w' w.heap.size a (shiftT T key).zs ∧ OwnInts w' w.heap.size a2 (shiftL T key) ∧ Below w.heap.size w w'
theorem shiftRes_no {T : Tab} {key : Int} {w w' : World} (h : shiftOk T key = false) (hb : Below w.heap.size w w') : ShiftRes T key w (.returned (.tuple #[tbl 0 0 none 0 0, .slice none 0 0, .bool false])) w' := by
  obtain ⟨e1, e2⟩ := shiftT_no h
  unfold ShiftRes
  rw [h, e1, e2]
  exact ⟨none, 0, none, 0, rfl, OwnInts.nil _ _, OwnInts.nil _ _, hb⟩

set_option maxRecDepth 100000 in
set_option maxHeartbeats 4000000 in
theorem shiftOut_any (T : Tab) (a : Option Addr) (c : Nat) (key : Int) (w : World) (hx : T.zs.length ≤ 9223372036854775807) (h1 : IntsAt w a T.zs) (hL : Laid w) :
    Calls Tryz.prog 79 #[tabV T a c, .int .i64 key] w (ShiftRes T key w) := by
  have S0 := (((St.start w).read h1).alloc #[.int .i64 T.t, .int .i64 T.p, .slice a T.zs.length c] 25).alloc #[.int .i64 0, .int .i64 0, .slice none 0 0] 25
  rw [World.size_alloc] at S0
  have L0 := Lib.hid (hL.below S0.old hL.pos)
  obtain ⟨pl, hpl⟩ : ∃ p, findOf T key = p := ⟨_, rfl⟩
  by_cases hp : 0 ≤ pl
  · have d : decide (0 ≤ pl) = true := decide_eq_true hp
    cases hs : plainB T
    · have E : Hid (shiftOk T key = false) := Lib.hid (by simp [shiftOk, hs])
      go_enter Tryz.func79, Tryz.ntmps79
      go_wp2_with fail
      refine (FindKey_any T a c key _ hx (by exact S0.reads 2 rfl) L0.out).mono ?_
      rw [hpl, d]
      rintro e w1 ⟨rfl, hb⟩
      have S1 := S0.below hb
      clear S0 hb
      obtain ⟨x0, x1, x2, x3, x4, x5, xz⟩ := facts3 (S1.cells 1 rfl)
      go_wp2_with fail
      refine (isPlain_any T a c _ hx (by exact S1.reads 2 rfl)).mono ?_
      rw [hs]
      rintro e w2 ⟨rfl, hb⟩
      have S2 := S1.below hb
      clear S1 hb x0 x1 x2 x3 x4 x5 xz
      obtain ⟨x0, x1, x2, x3, x4, x5, xz⟩ := facts3 (S2.cells 0 rfl)
      go_wp2
      refine bodyPost_ret (v := .tuple #[tbl 0 0 none 0 0, .slice none 0 0, .bool false]) (by simp [results, Tryz.results79, go_sem, x0, x1, x2, x3, x4, x5]) rfl (shiftRes_no E.out ?_)
      exact set3 S2.old (by omega) _ _ _
    · have ok : shiftOk T key = true := by simp [shiftOk, hs, hpl, hp]
      obtain ⟨k, D⟩ := shift_says ok
      obtain rfl : pl = k := hpl.symm.trans D.find
      have hlt := D.lt
      have hn := (valid_facts D.val).1
      obtain ⟨e1, e2⟩ := shiftT_yes ok D.find
      have E : Hid (shiftOk T key = true ∧ shiftT T key = tab T (shiftZ T T.zs k).2 ∧ shiftL T key = (shiftZ T T.zs k).1) := Lib.hid ⟨ok, e1, e2⟩
      have HH := Lib.hid D.hole
      have HZL := Lib.hid D.left.len
      obtain ⟨b, o, rfl, hc⟩ := h1 (by omega)
      clear ok D e1 e2
      go_enter Tryz.func79, Tryz.ntmps79
      go_wp2_with fail
      refine (FindKey_any T _ c key _ hx (by exact S0.reads 2 rfl) L0.out).mono ?_
      rw [hpl, d]
      rintro e w1 ⟨rfl, hb⟩
      have S1 := S0.below hb
      clear S0 hb
      obtain ⟨x0, x1, x2, x3, x4, x5, xz⟩ := facts3 (S1.cells 1 rfl)
      go_wp2_with fail
      refine (isPlain_any T _ c _ hx (by exact S1.reads 2 rfl)).mono ?_
      rw [hs]
      rintro e w2 ⟨rfl, hb⟩
      have S2 := S1.below hb
      have z2 : w.heap.size + 1 < w2.heap.size := S2.sz 0 rfl
      clear S1 hb x0 x1 x2 x3 x4 x5 xz
      obtain ⟨x0, x1, x2, x3, x4, x5, xz⟩ := facts3 (S2.cells 1 rfl)
      go_wp2_with fail
      refine (Tryz.slices_Clone_int b o T.zs.length c T.zs _ (Nat.le_refl _) (by omega) (fun j hj => ?_)).mono ?_
      · obtain ⟨b', o', e, hc'⟩ := (S2.reads 2 rfl) (by omega)
        cases e
        exact hc' j hj
      rintro e w3 ⟨v', rfl, hown, _, hb⟩
      obtain ⟨g, c', rfl⟩ := ownsRow_pos hown (by omega)
      rw [List.take_length] at hown
      have HO := ownsRow_ints hown
      have hg := HO.1 _ rfl
      simp only at hg
      have z3 := hb.size
      have S3 := (S2.below hb).add (It.own g (g + 1) (some ⟨g, 0, none⟩) T.zs) (by show g + 1 ≤ w3.heap.size; omega) ⟨⟨fun p hp => by cases hp; exact ⟨Nat.le_refl _, hg.2⟩, HO.2⟩, fun p hp => by cases hp; exact Nat.lt_succ_self _⟩
      clear hown hb S2 hc h1 HO x0 x1 x2 x3 x4 x5 xz
      obtain ⟨x0, x1, x2, x3, x4, x5, xz⟩ := facts3 (S3.cells 2 rfl)
      have S4 := S3.setBoxAt 2 rfl 2 (.slice (some ⟨g, 0, none⟩) T.zs.length c') (c' := #[.int .i64 T.t, .int .i64 T.p, .slice (some ⟨g, 0, none⟩) T.zs.length c']) (by have := setCell_inRow (S3.cells 2 rfl) 2 (.slice (some ⟨g, 0, none⟩) T.zs.length c'); simpa using this) (by simp [Far, It.box, It.own, It.read] <;> omega) (by omega)
      have z4 : w3.heap.size ≤ (w3.setCell ⟨w.heap.size, 2, none⟩ (.slice (some ⟨g, 0, none⟩) T.zs.length c')).heap.size := by simp [World.setCell]
      go_wp2_with fail
      clear x0 x1 x2 x3 x4 x5 xz S3
      generalize w3.setCell ⟨w.heap.size, 2, none⟩ (.slice (some ⟨g, 0, none⟩) T.zs.length c') = w4 at S4 z4 ⊢
      refine (shifts_any T (some ⟨g, 0, none⟩) c' (k : Int) _).mono ?_
      rintro e w5 ⟨rfl, rfl⟩
      have S5 := (S4.alloc #[.int .i64 T.t, .int .i64 T.p, .slice (some ⟨g, 0, none⟩) T.zs.length c'] 25).alloc #[.int .i64 k] 3
      have z5 : w4.heap.size + 1 + 1 ≤ ((w4.alloc (.cells #[.int .i64 T.t, .int .i64 T.p, .slice (some ⟨g, 0, none⟩) T.zs.length c'] 25)).alloc (.cells #[.int .i64 k] 3)).heap.size := by simp
      rw [World.size_alloc] at S5
      generalize (w4.alloc (.cells #[.int .i64 T.t, .int .i64 T.p, .slice (some ⟨g, 0, none⟩) T.zs.length c'] 25)).alloc (.cells #[.int .i64 k] 3) = w5 at S5 z5 ⊢
      clear S4
      obtain ⟨q0, q1, q2, _⟩ := facts3 (S5.cells 1 rfl)
      obtain ⟨r0, _⟩ := facts1 (S5.cells 0 rfl)
      have HC := Lib.hid (CollectW_any 146 #[.pointer (some ⟨w4.heap.size + 1, 0, none⟩), .pointer (some ⟨w4.heap.size, 0, none⟩)] g 256 (fun xs W' => xs = (shiftZ T T.zs k).1 ∧ OwnInts W' g (some ⟨g, 0, none⟩) (shiftZ T T.zs k).2) w5 (by omega) (by omega)
        (fun s A A' h e1 e2 => ⟨h.1, rowOwn_block h.2 e1 e2⟩) (enters_of Tryz.func146 (by kernel_rfl) rfl)
        (shifts_writes 8 (by omega) (w4.heap.size + 1) w4.heap.size g w5.heap.size k c' T hlt HH.out w5 r0 q0 q1 q2 (S5.owns 2 rfl) (by omega) (by omega) (by omega) (by omega) (by omega) (Nat.le_refl _)))
      clear q0 q1 q2 r0
      go_wp2_with fail
      refine HC.out.mono ?_
      rintro e w6 ⟨a6, c6, xs, rfl, ho6, ⟨rfl, ho⟩, hg6⟩
      have S6 := (S5.markAt (a := some ⟨g, 0, none⟩) hg6 ho 2 rfl (by simp [Far, It.box, It.own, It.read] <;> omega) (by omega)).own ho6
      have z6 := hg6.size
      clear S5 ho6 ho hg6 HC
      obtain ⟨x0, x1, x2, x3, x4, x5, xz⟩ := facts3 (S6.cells 5 rfl)
      obtain ⟨y0, y1, y2, y3, y4, y5, yz⟩ := facts3 (S6.cells 4 rfl)
      go_wp2
      have S7 := (S6.turn (l' := [It.own w5.heap.size w6.heap.size a6 (shiftZ T T.zs k).1, It.own g (g + 1) (some ⟨g, 0, none⟩) (shiftZ T T.zs k).2]) fun i hi => by
        simp only [List.mem_cons, List.not_mem_nil, or_false] at hi
        rcases hi with rfl | rfl <;> simp).set3Far (b := w.heap.size + 1) (by simp [Far, It.box, It.own, It.read] <;> omega) (by omega) (.int .i64 T.t) (.int .i64 T.p) (.slice (some ⟨g, 0, none⟩) T.zs.length c')
      refine bodyPost_ret (v := .tuple #[tabV (tab T (shiftZ T T.zs k).2) (some ⟨g, 0, none⟩) c', .slice a6 (shiftZ T T.zs k).1.length c6, .bool true]) (by simp [results, Tryz.results79, go_sem, tab, HZL.out, x0, x1, x2, x3, x4, x5, y0, y1, y2, y3, y4, y5]) rfl ?_
      obtain ⟨E1, E2, E3⟩ := E.out
      unfold ShiftRes
      rw [E1, E2, E3]
      exact ⟨_, c', a6, c6, rfl, (S7.owns 1 rfl).mono (by omega), (S7.owns 0 rfl).mono (by omega), S7.old⟩
  · have d : decide (0 ≤ pl) = false := decide_eq_false hp
    have E : Hid (shiftOk T key = false) := Lib.hid (by simp only [shiftOk, hpl, d]; rfl)
    go_enter Tryz.func79, Tryz.ntmps79
    go_wp2_with fail
    refine (FindKey_any T a c key _ hx (by exact S0.reads 2 rfl) L0.out).mono ?_
    rw [hpl, d]
    rintro e w1 ⟨rfl, hb⟩
    have S1 := S0.below hb
    clear S0 hb
    obtain ⟨x0, x1, x2, x3, x4, x5, xz⟩ := facts3 (S1.cells 0 rfl)
    go_wp2
    refine bodyPost_ret (v := .tuple #[tbl 0 0 none 0 0, .slice none 0 0, .bool false]) (by simp [results, Tryz.results79, go_sem, x0, x1, x2, x3, x4, x5]) rfl (shiftRes_no E.out ?_)
    exact set3 S1.old (by omega) _ _ _

set_option maxHeartbeats 2000000 in
theorem DropShift_any (T : Tab) (a : Option Addr) (c : Nat) (key : Int) (w : World) (hx : T.zs.length ≤ 9223372036854775807) (h1 : IntsAt w a T.zs) (hL : Laid w) :
    Calls Tryz.prog 30 #[tabV T a c, .int .i64 key] w (TabRes (shiftT T key) (shiftOk T key) w) := by
  have S0 := (((St.start w).read h1).alloc #[.int .i64 T.t, .int .i64 T.p, .slice a T.zs.length c] 25).alloc #[.int .i64 0, .int .i64 0, .slice none 0 0] 25
  rw [World.size_alloc] at S0
  have HO := Lib.hid (shiftOut_any T a c key _ hx (S0.reads 2 rfl) (hL.below S0.old hL.pos))
  unfold ShiftRes at HO
  generalize shiftT T key = U at HO ⊢
  generalize shiftL T key = xs at HO
  generalize shiftOk T key = ok at HO ⊢
  go_enter Tryz.func30, Tryz.ntmps30
  go_wp2_with fail
  refine HO.out.mono ?_
  rintro e w1 ⟨a1, c1, a2, c2, rfl, ho1, ho2, hb⟩
  have S1 := (S0.below hb).own ho1
  have z1 := hb.size
  simp only [World.size_alloc] at z1
  clear S0 hb ho1 ho2 HO
  have S2 := S1.alloc #[.int .i64 U.t, .int .i64 U.p, .slice a1 U.zs.length c1] 25
  obtain ⟨x0, x1, x2, x3, x4, x5, xz⟩ := facts3 (S2.cells 2 rfl)
  obtain ⟨y0, y1, y2, y3, y4, y5, yz⟩ := facts3 (S2.cells 0 rfl)
  go_wp2
  have S3 := (S2.turn (l' := [It.own (w.heap.size + 1 + 1) w1.heap.size a1 U.zs]) fun i hi => by simp at hi; subst hi; simp).set3Far (b := w.heap.size + 1) ⟨.inr (Nat.le_refl _), trivial⟩ (by omega) (.int .i64 U.t) (.int .i64 U.p) (.slice a1 U.zs.length c1)
  refine bodyPost_ret (v := .tuple #[tabV U a1 c1, .bool ok]) (by simp [results, Tryz.results30, go_sem, x0, x1, x2, x3, x4, x5, y0, y1, y2]) rfl ?_
  exact ⟨a1, c1, rfl, (S3.owns 0 rfl).mono (by omega), S3.old⟩

set_option maxHeartbeats 2000000 in
theorem MovesBy_any (T : Tab) (a : Option Addr) (c : Nat) (key : Int) (w : World) (hx : T.zs.length ≤ 9223372036854775807) (h1 : IntsAt w a T.zs) (hL : Laid w) :
    Calls Tryz.prog 32 #[tabV T a c, .int .i64 key] w (IntsRes (shiftL T key) (shiftOk T key) w) := by
  have S0 := ((St.start w).read h1).alloc #[.int .i64 T.t, .int .i64 T.p, .slice a T.zs.length c] 25
  have HO := Lib.hid (shiftOut_any T a c key _ hx (S0.reads 1 rfl) (hL.below S0.old hL.pos))
  unfold ShiftRes at HO
  generalize shiftT T key = U at HO
  generalize shiftL T key = xs at HO ⊢
  generalize shiftOk T key = ok at HO ⊢
  go_enter Tryz.func32, Tryz.ntmps32
  go_wp2_with fail
  refine HO.out.mono ?_
  rintro e w1 ⟨a1, c1, a2, c2, rfl, ho1, ho2, hb⟩
  have S1 := (S0.below hb).own ho2
  have z1 := hb.size
  simp only [World.size_alloc] at z1
  clear S0 hb ho1 ho2 HO
  have S2 := S1.alloc #[.int .i64 U.t, .int .i64 U.p, .slice a1 U.zs.length c1] 25
  go_wp2
  go_ret2
  exact ⟨a2, c2, rfl, (S2.owns 1 rfl).mono (by simp only [World.size_alloc]; omega), S2.old⟩

end Go.Proofs.YtalehninmdcoeaaGreatDoor

/-
  The law FnFairSame: the walk.
-/
import Derived.Test.YtkdkdmjhhgllgaaGreatDoorDrawn
import Derived.Test.YtkdkdmjhhgllgaaGreatDoorDraw6E
import Derived.Test.YtkdkdmjhhgllgaaGreatDoorFairs2All
import Derived.Test.YtkdkdmjhhgllgaaGreatDoorModel6All
import Derived.Test.YtkdkdmjhhgllgaaGreatDoorFairAll
import Derived.Test.YtkdkdmjhhgllgaaGreatDoorFindI
import Derived.Test.YtkdkdmjhhgllgaaGreatDoorSame
import Derived.Test.YtkdkdmjhhgllgaaGreatDoorOt
import Derived.Test.YtkdkdmjhhgllgaaGreatDoorMath
namespace Go.Proofs.YtkdkdmjhhgllgaaGreatDoor
open Go.RowKit

theorem fof_self {T : Tab} (hf : fairB T = true) : fofOk T = true ∧ fofT T = T := by
  have hv : validB T = true := (plain_parts (fair_parts hf).1).2.1
  obtain ⟨e1, e2⟩ := fof_eq hv
  obtain ⟨o, e⟩ := fog_fair hf
  exact ⟨by rw [e1]; exact o, by rw [e2]; exact e⟩
theorem take_snocR {R : List Int} {j : Nat} (h : j < R.length) : R.take j ++ [nth R j] = R.take (j + 1) := by
  rw [List.take_succ_eq_append_getElem h]
  simp [nth, List.getElem?_eq_getElem h]
theorem nth_reverse {ks : List Int} {j : Nat} (h : j < ks.length) : nth ks.reverse j = nth ks (ks.length - 1 - j) := by
  simp [nth, List.getElem?_reverse h]

structure SameSays (T X : Tab) (ks : List Int) : Prop where
  len : X.zs.length ≤ 16
  back : fallOk T ks.reverse = true ∧ fallT T ks.reverse = X
  self : fofOk X = true ∧ fofT X = X
  fair : fairB X = true
  found : ∀ i, i < ks.length → decide (0 ≤ findOf X (nth ks i)) = true
theorem same_says {T : Tab} {ks : List Int} (h : fallOk T ks = true) : SameSays T (fallT T ks) ks :=
  ⟨fallT_len _ _, fall_back h, fof_self (fall_fairB h), fall_fairB h, fun _ hi => decide_eq_true (fall_found h (nth_mem hi))⟩

set_option maxRecDepth 100000 in
set_option maxHeartbeats 16000000 in
theorem walkFnFairSame (w : World) (a : Option Addr) (len cap : Nat) (zs : List Int) (h : IsRow .u8 w a len cap zs) (hL : Laid w) :
    Calls Tryz.prog 3 #[.slice a len cap] w fun e w' => e = .returned (.bool true) ∧ Below w.heap.size w w' := by
  obtain ⟨ys, rfl, hC, S0⟩ := came_of h
  clear h
  by_cases hs : ys.length ≤ 1048576
  · have t1 : decide (1048576 < (ys.length : Int)) = false := by simp; omega
    obtain ⟨i0, hi, hz0, hz1, hz2⟩ := info_parts Tryz.info3
    have HI := Lib.hid hi; have HZ0 := Lib.hid hz0; have HZ1 := Lib.hid hz1; have HZ2 := Lib.hid hz2
    clear hi hz0 hz1 hz2
    go_enter Tryz.func3, Tryz.ntmps3
    go_wp2_with fail
    refine (DrawFairAll_any (by exact S0) hC).mono ?_
    rintro e w1 ⟨T, a1, c1, lo, hi, ks, ak, ck, lok, hik, rfl, hT, hkl, hkb, hlo, S1⟩
    clear hkb S0 hC
    obtain ⟨n1, n2⟩ := hT.len
    have hxl := fallT_len T ks
    have HD := Lib.hid fun (W : World) (h1 : IntsAt W a1 T.zs) (h2 : IntsAt W ak ks) (hl : Laid W) => FairAll_any T a1 c1 ks ak ck W (by omega) (by omega) h1 h2 hl
    have HS := Lib.hid fun (W : World) (h1 : IntsAt W a1 T.zs) (h2 : IntsAt W ak ks) => specFairAll_any T a1 c1 ks ak ck W (by omega) (by omega) h1 h2
    have hno : Hid (fallOk T ks = false → (fallT T ks).zs.length = 0) := Lib.hid fun h => by simp [fallT, h]
    have hcs : Hid (fallOk T ks = true → SameSays T (fallT T ks) ks) := Lib.hid same_says
    generalize fallT T ks = X at hxl HD HS hcs hno
    generalize fallOk T ks = xok at HD HS hcs hno
    have S2 := S1.alloc #[.int .i64 T.t, .int .i64 T.p, .slice a1 T.zs.length c1] 25
    go_wp2_with fail
    refine (HD.out _ (by exact S2.ints 2 rfl) (by exact S2.ints 1 rfl) (hL.below S2.old hL.pos)).mono ?_
    rintro e w2 ⟨a2, c2, rfl, ho, hb⟩
    have S3 : ∃ l2 h2, St w w2 [It.own l2 h2 a2 X.zs, It.box w1.heap.size #[.int .i64 T.t, .int .i64 T.p, .slice a1 T.zs.length c1] 25, It.own lok hik ak ks, It.own lo hi a1 T.zs] := ⟨_, _, (S2.below hb).own ho⟩
    obtain ⟨lX, hX, S3⟩ := S3
    clear S1 S2 ho hb
    obtain ⟨x0, x1, x2, x3, x4, x5, xz⟩ := facts3 (S3.cells 1 rfl)
    have S4 := S3.alloc #[.int .i64 X.t, .int .i64 X.p, .slice a2 X.zs.length c2] 25
    clear S3
    go_wp2_with fail
    clear x0 x1 x2 x3 x4 x5 xz
    refine (HS.out _ (by exact S4.ints 4 rfl) (by exact S4.ints 3 rfl)).mono ?_
    rintro e w3 ⟨a3, c3, rfl, ho, hb⟩
    have S5 : ∃ l3 h3, St w (w3.alloc (.cells #[.int .i64 X.t, .int .i64 X.p, .slice a3 X.zs.length c3] 25)) [It.box w3.heap.size #[.int .i64 X.t, .int .i64 X.p, .slice a3 X.zs.length c3] 25, It.own l3 h3 a3 X.zs, It.box w2.heap.size #[.int .i64 X.t, .int .i64 X.p, .slice a2 X.zs.length c2] 25, It.own lX hX a2 X.zs, It.box w1.heap.size #[.int .i64 T.t, .int .i64 T.p, .slice a1 T.zs.length c1] 25, It.own lok hik ak ks, It.own lo hi a1 T.zs] := ⟨_, _, ((S4.below hb).own ho).alloc _ _⟩
    obtain ⟨l3, h3, S5⟩ := S5
    clear S4 ho hb
    have HSM := Lib.hid fun (W : World) (b3 : Option Addr) (d3 : Nat) h1 h2 => SameTable_any X X a2 b3 c2 d3 W (by omega) (by omega) h1 h2
    have hsame : sameB X X = true := by simp [sameB]
    rw [hsame] at HSM
    clear hsame
    obtain ⟨x0, x1, x2, x3, x4, x5, xz⟩ := facts3 (S5.cells 2 rfl)
    obtain ⟨y0, y1, y2, y3, y4, y5, yz⟩ := facts3 (S5.cells 0 rfl)
    go_wp2_with fail
    clear x0 x1 x2 x3 x4 x5 xz y0 y1 y2 y3 y4 y5 yz
    refine (HSM.out _ _ _ (by exact S5.ints 3 rfl) (by exact S5.ints 1 rfl)).mono ?_
    rintro e w4 ⟨rfl, hb⟩
    have S6 := S5.below hb
    clear S5 hb HD HS
    cases xok
    · have hl0 := hno.out rfl
      have d0 : ((X.zs.length : Int) == 0) = true := by rw [hl0]; rfl
      clear hl0 hno
      obtain ⟨x0, x1, x2, x3, x4, x5, xz⟩ := facts3 (S6.cells 2 rfl)
      obtain ⟨y0, y1, y2, y3, y4, y5, yz⟩ := facts3 (S6.cells 0 rfl)
      go_wp2_with fail
      clear x0 x1 x2 x3 x4 x5 xz y0 y1 y2 y3 y4 y5 yz
      refine (HSM.out _ _ _ (by exact S6.ints 3 rfl) (by exact S6.ints 1 rfl)).mono ?_
      rintro e w5 ⟨rfl, hb⟩
      have S7 := S6.below hb
      obtain ⟨x0, x1, x2, x3, x4, x5, xz⟩ := facts3 (S7.cells 2 rfl)
      go_wp2_with fail
      go_ret
      exact ⟨rfl, S7.old⟩
    · have C := hcs.out rfl
      clear hno hcs
      have HB := fun (W : World) (ab : Option Addr) (cb : Nat) (h1 : IntsAt W a1 T.zs) (h2 : IntsAt W ab ks.reverse) (hl : Laid W) => FairAll_any T a1 c1 ks.reverse ab cb W (by omega) (by simp; omega) h1 h2 hl
      rw [C.back.1, C.back.2] at HB
      have HO := fun (W : World) (h1 : IntsAt W a2 X.zs) (hl : Laid W) => FairOf_any X a2 c2 W (by omega) h1 hl
      rw [C.self.1, C.self.2] at HO
      have HF := fun (W : World) (h1 : IntsAt W a2 X.zs) (hl : Laid W) => IsFair_any X a2 c2 W (by omega) h1 hl
      rw [C.fair] at HF
      have HK : Hid (∀ (j : Nat) (W : World), j < ks.length → IntsAt W a2 X.zs → Laid W → Calls Tryz.prog 10 #[tabV X a2 c2, .int .i64 (nth ks j)] W fun e w' => e = .returned (.tuple #[.int .i64 (findOf X (nth ks j)), .bool true]) ∧ Below W.heap.size W w') := Lib.hid fun j W hj h1 hl => by
        have := FindKey_any X a2 c2 (nth ks j) W (by omega) h1 hl
        rwa [C.found j hj] at this
      obtain ⟨R, hR⟩ : ∃ R, ks.reverse = R := ⟨_, rfl⟩
      have hRl : Hid (R.length = ks.length) := Lib.hid (by rw [← hR]; simp)
      have hRn : Hid (∀ j, j < ks.length → nth R j = nth ks (ks.length - 1 - j)) := Lib.hid fun j hj => by rw [← hR]; exact nth_reverse hj
      rw [hR] at HB
      clear hR C
      have HB := Lib.hid HB
      have HO := Lib.hid HO
      have HF := Lib.hid HF
      have S7 := (S6.turn (l' := [It.box w2.heap.size #[.int .i64 X.t, .int .i64 X.p, .slice a2 X.zs.length c2] 25, It.own lX hX a2 X.zs, It.box w1.heap.size #[.int .i64 T.t, .int .i64 T.p, .slice a1 T.zs.length c1] 25, It.own lok hik ak ks, It.own lo hi a1 T.zs]) fun i hi => List.mem_cons_of_mem _ (List.mem_cons_of_mem _ hi))
      have FL : Hid (∀ i : It, w4.heap.size ≤ i.lo → Far i [It.box w2.heap.size #[.int .i64 X.t, .int .i64 X.p, .slice a2 X.zs.length c2] 25, It.own lX hX a2 X.zs, It.box w1.heap.size #[.int .i64 T.t, .int .i64 T.p, .slice a1 T.zs.length c1] 25, It.own lok hik ak ks, It.own lo hi a1 T.zs]) := Lib.hid fun i h => Far.older S7 (fun _ h => h) h
      have S8 := (S7.below ((Below.refl _ w4).alloc (Nat.le_refl _) (.cells #[] 3))).add (It.row w4.heap.size (w4.heap.size + 1) (.slice (some ⟨w4.heap.size, 0, none⟩) 0 0) []) (by simp [It.row]) ⟨row_start w4, fun k e => by cases e; simp⟩
      have hzw := S7.size
      clear S6 S7
      go_wp2_with fail
      go_loopw [9, 10] (fun x y wr => ∃ (j : Nat) (i : Int) (v : Value) (xs : List Int) (hi' : Nat), j ≤ ks.length ∧ y = .int .i64 i ∧ i = (ks.length : Int) - 1 - j ∧ x = v ∧ Hid (xs = R.take j) ∧ Hid (xs.length = j) ∧ w4.heap.size < hi' ∧
          St w wr (It.row w4.heap.size hi' v xs :: [It.box w2.heap.size #[.int .i64 X.t, .int .i64 X.p, .slice a2 X.zs.length c2] 25, It.own lX hX a2 X.zs, It.box w1.heap.size #[.int .i64 T.t, .int .i64 T.p, .slice a1 T.zs.length c1] 25, It.own lok hik ak ks, It.own lo hi a1 T.zs])) (fun _ y _ => (intOf y + 1).toNat)
      case atStart => exact ⟨0, (ks.length : Int) - 1, _, [], _, Nat.zero_le _, rfl, by omega, rfl, Lib.hid rfl, Lib.hid rfl, Nat.lt_succ_self _, S8⟩
      case round =>
        obtain ⟨j, i, v, xs, hi', hj, rfl, hie, hxv, X1, XL, hz, Sr⟩ := hrel
        replace hxv := hxv.symm
        subst hxv
        clear S8
        have hxl : xs.length ≤ ks.length := by rw [XL.out]; exact hj
        by_cases hlt : j < ks.length
        · obtain ⟨m, hm⟩ : ∃ m : Nat, m = ks.length - 1 - j := ⟨_, rfl⟩
          obtain rfl : i = (m : Int) := by omega
          clear hie
          have d : decide (0 ≤ (m : Int)) = true := decide_eq_true (by omega)
          have d1 : decide ((m : Int) < (ks.length : Int)) = true := decide_eq_true (by omega)
          have i1 : (0 : Int) ≤ (m : Int) := by omega
          have i2 : (m : Int) < (ks.length : Int) := by omega
          have wj : IntKind.i64.wrap ((m : Int) - 1) = (m : Int) - 1 := IntWalk.i64_in _ ⟨by omega, by omega⟩
          obtain ⟨b, o, x, rfl, qx, X2⟩ := (Sr.ints 4 rfl).at (show m < ks.length by omega)
          have X3 : Hid (xs ++ [x] = R.take (j + 1)) := Lib.hid (by
            rw [X1.out, ← take_snocR (by rw [hRl.out]; exact hlt), hRn.out j hlt, ← hm, X2.out])
          have HM := Lib.hid hm
          clear hm
          have hown := Sr.rows 0 rfl
          have hzr : w4.heap.size < wr.heap.size := Nat.lt_of_lt_of_le hz (Sr.sz 0 rfl)
          go_wp2_with (at_builtin; refine wpList_append_own _ rfl _ _ 23 rfl w4.heap.size 3 i0 (.int .i64 0) 1 8 Tryz.underlying23 HI.out HZ0.out HZ1.out HZ2.out rfl (by decide) _ _ _ rfl (hown.alloc _) ⟨wr.heap.size, 0, none⟩ 1 1 [.int .i64 x] rfl rfl (cell_one_new _ _ _) (by simp [Value.oneCell']) (by unfold maxLen; omega) (by omega) (by simp; omega) ?_)
          intro v' w5 hown5 hgrow5 _
          obtain ⟨g', cap', rfl⟩ := ownsRow_more hown5
          have S5 := Sr.append (FL.out _ (Nat.le_refl _)) hzw _ hown5 hgrow5
          have z5 : w4.heap.size < w5.heap.size := by have := hgrow5.size; simp at this; omega
          have X4 : Hid ((xs ++ [x]).length = j + 1) := Lib.hid (by rw [List.length_append, XL.out]; rfl)
          clear hown5 hgrow5 hown Sr
          go_wp2
          go_roundw
          case rel => exact ⟨j + 1, (m : Int) - 1, _, xs ++ [x], w5.heap.size, by omega, by go_num, by have := HM.out; omega, rfl, X3, X4, z5, S5⟩
          case measure => simp [intOf]
        · obtain rfl : j = ks.length := by omega
          obtain rfl : i = -1 := by omega
          obtain rfl : xs = R := by rw [X1.out, List.take_of_length_le (by rw [hRl.out]; exact Nat.le_refl _)]
          obtain ⟨a5, c5, rfl⟩ := ownsRow_slice (Sr.rows 0 rfl)
          have R5 := Sr.rowInts 0 rfl
          have S9 := Sr.add (It.own w4.heap.size wr.heap.size a5 xs) (Nat.le_refl _) ⟨R5, fun p hp => (R5.1 p hp).2⟩
          replace S9 : St w wr (It.own w4.heap.size wr.heap.size a5 xs :: [It.box w2.heap.size #[.int .i64 X.t, .int .i64 X.p, .slice a2 X.zs.length c2] 25, It.own lX hX a2 X.zs, It.box w1.heap.size #[.int .i64 T.t, .int .i64 T.p, .slice a1 T.zs.length c1] 25, It.own lok hik ak ks, It.own lo hi a1 T.zs]) := S9.turn fun i hi => by
            simp only [List.mem_cons] at hi ⊢
            rcases hi with h | h
            · exact .inl h
            · exact .inr (.inr h)
          clear Sr R5 X1 XL hie hlt FL hxl
          obtain ⟨x0, x1, x2, x3, x4, x5, xz⟩ := facts3 (S9.cells 3 rfl)
          go_wp2_with fail
          clear x0 x1 x2 x3 x4 x5 xz
          refine (HB.out _ _ _ (by exact S9.ints 5 rfl) (by exact S9.ints 0 rfl) (hL.below S9.old hL.pos)).mono ?_
          rintro e w6 ⟨a6, c6, rfl, ho, hb⟩
          have SA : ∃ l6 h6, St w (w6.alloc (.cells #[.int .i64 X.t, .int .i64 X.p, .slice a6 X.zs.length c6] 25)) (It.box w6.heap.size #[.int .i64 X.t, .int .i64 X.p, .slice a6 X.zs.length c6] 25 :: It.own l6 h6 a6 X.zs :: [It.box w2.heap.size #[.int .i64 X.t, .int .i64 X.p, .slice a2 X.zs.length c2] 25, It.own lX hX a2 X.zs, It.box w1.heap.size #[.int .i64 T.t, .int .i64 T.p, .slice a1 T.zs.length c1] 25, It.own lok hik ak ks, It.own lo hi a1 T.zs]) := ⟨_, _, ((((S9.below hb).own ho).turn (l' := It.own _ _ a6 X.zs :: [It.box w2.heap.size #[.int .i64 X.t, .int .i64 X.p, .slice a2 X.zs.length c2] 25, It.own lX hX a2 X.zs, It.box w1.heap.size #[.int .i64 T.t, .int .i64 T.p, .slice a1 T.zs.length c1] 25, It.own lok hik ak ks, It.own lo hi a1 T.zs]) fun i hi => by
            simp only [List.mem_cons] at hi ⊢
            rcases hi with h | h
            · exact .inl h
            · exact .inr (.inr h)).alloc _ _)⟩
          obtain ⟨l6, h6, SA⟩ := SA
          clear S9 ho hb HB
          obtain ⟨x0, x1, x2, x3, x4, x5, xz⟩ := facts3 (SA.cells 2 rfl)
          go_wp2_with fail
          clear x0 x1 x2 x3 x4 x5 xz
          refine (HO.out _ (by exact SA.ints 3 rfl) (hL.below SA.old hL.pos)).mono ?_
          rintro e w7 ⟨a7, c7, rfl, ho, hb⟩
          have SB : ∃ l7 h7, St w (w7.alloc (.cells #[.int .i64 X.t, .int .i64 X.p, .slice a7 X.zs.length c7] 25)) (It.box w7.heap.size #[.int .i64 X.t, .int .i64 X.p, .slice a7 X.zs.length c7] 25 :: It.own l7 h7 a7 X.zs :: It.box w6.heap.size #[.int .i64 X.t, .int .i64 X.p, .slice a6 X.zs.length c6] 25 :: It.own l6 h6 a6 X.zs :: [It.box w2.heap.size #[.int .i64 X.t, .int .i64 X.p, .slice a2 X.zs.length c2] 25, It.own lX hX a2 X.zs, It.box w1.heap.size #[.int .i64 T.t, .int .i64 T.p, .slice a1 T.zs.length c1] 25, It.own lok hik ak ks, It.own lo hi a1 T.zs]) := ⟨_, _, ((SA.below hb).own ho).alloc _ _⟩
          obtain ⟨l7, h7, SB⟩ := SB
          clear SA ho hb HO
          go_wp2_with fail
          go_loopw [16, 17, 18, 94] (fun _ _ _ z wr => ∃ j : Nat, j ≤ ks.length ∧ z = .int .i64 j ∧
            St w wr (It.box w7.heap.size #[.int .i64 X.t, .int .i64 X.p, .slice a7 X.zs.length c7] 25 :: It.own l7 h7 a7 X.zs :: It.box w6.heap.size #[.int .i64 X.t, .int .i64 X.p, .slice a6 X.zs.length c6] 25 :: It.own l6 h6 a6 X.zs :: [It.box w2.heap.size #[.int .i64 X.t, .int .i64 X.p, .slice a2 X.zs.length c2] 25, It.own lX hX a2 X.zs, It.box w1.heap.size #[.int .i64 T.t, .int .i64 T.p, .slice a1 T.zs.length c1] 25, It.own lok hik ak ks, It.own lo hi a1 T.zs])) (fun _ _ _ z _ => ks.length - (intOf z).toNat)
          case atStart => exact ⟨0, Nat.zero_le _, rfl, SB⟩
          case round =>
            obtain ⟨j, hj, rfl, Sr⟩ := hrel
            clear SB
            by_cases hlt : j < ks.length
            · obtain ⟨b, o, x, rfl, qx, X2⟩ := (Sr.ints 7 rfl).at hlt
              have HKj := HK.out j
              rw [X2.out] at HKj
              have HKj := Lib.hid HKj
              clear X2
              obtain ⟨x0, x1, x2, x3, x4, x5, xz⟩ := facts3 (Sr.cells 4 rfl)
              go_wp2_with fail
              clear x0 x1 x2 x3 x4 x5 xz
              refine (HKj.out _ hlt (by exact Sr.ints 5 rfl) (hL.below Sr.old hL.pos)).mono ?_
              rintro e w8 ⟨rfl, hb⟩
              have S8 := Sr.below hb
              clear Sr hb
              go_wp2
              go_roundw
              case rel => exact ⟨j + 1, by omega, by go_num, S8⟩
              case measure => simp [intOf]; omega
            · obtain rfl : j = ks.length := by omega
              obtain ⟨x0, x1, x2, x3, x4, x5, xz⟩ := facts3 (Sr.cells 4 rfl)
              obtain ⟨y0, y1, y2, y3, y4, y5, yz⟩ := facts3 (Sr.cells 2 rfl)
              go_wp2_with fail
              clear x0 x1 x2 x3 x4 x5 xz y0 y1 y2 y3 y4 y5 yz
              refine (HSM.out _ _ _ (by exact Sr.ints 5 rfl) (by exact Sr.ints 3 rfl)).mono ?_
              rintro e w8 ⟨rfl, hb⟩
              have S8 := Sr.below hb
              clear Sr hb
              obtain ⟨x0, x1, x2, x3, x4, x5, xz⟩ := facts3 (S8.cells 4 rfl)
              obtain ⟨y0, y1, y2, y3, y4, y5, yz⟩ := facts3 (S8.cells 0 rfl)
              go_wp2_with fail
              clear x0 x1 x2 x3 x4 x5 xz y0 y1 y2 y3 y4 y5 yz
              refine (HSM.out _ _ _ (by exact S8.ints 5 rfl) (by exact S8.ints 1 rfl)).mono ?_
              rintro e w9 ⟨rfl, hb⟩
              have S9 := S8.below hb
              clear S8 hb
              obtain ⟨x0, x1, x2, x3, x4, x5, xz⟩ := facts3 (S9.cells 4 rfl)
              go_wp2_with fail
              clear x0 x1 x2 x3 x4 x5 xz
              refine (HF.out _ (by exact S9.ints 5 rfl) (hL.below S9.old hL.pos)).mono ?_
              rintro e w10 ⟨rfl, hb⟩
              have SC := S9.below hb
              go_wp2_with fail
              go_ret
              exact ⟨rfl, SC.old⟩
  · have t1 : decide (1048576 < (ys.length : Int)) = true := by simp; omega
    go_enter Tryz.func3, Tryz.ntmps3
    go_wp2_with fail
    go_ret
    exact ⟨rfl, S0.old⟩

end Go.Proofs.YtkdkdmjhhgllgaaGreatDoor

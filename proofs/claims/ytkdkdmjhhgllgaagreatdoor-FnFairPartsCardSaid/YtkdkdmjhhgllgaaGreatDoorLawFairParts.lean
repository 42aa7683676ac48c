/-
  The law FnFairParts: the walk.
-/
import Derived.Test.YtkdkdmjhhgllgaaGreatDoorDrawn
import Derived.Test.YtkdkdmjhhgllgaaGreatDoorDraw6E
import Derived.Test.YtkdkdmjhhgllgaaGreatDoorFairs2All
import Derived.Test.YtkdkdmjhhgllgaaGreatDoorModel6All
import Derived.Test.YtkdkdmjhhgllgaaGreatDoorSame
import Derived.Test.YtkdkdmjhhgllgaaGreatDoorOt
import Derived.Test.YtkdkdmjhhgllgaaGreatDoorMath
import Derived.Deep.DeepCutAuto
namespace Go.Proofs.YtkdkdmjhhgllgaaGreatDoor
open Go.RowKit

theorem ints_drop {w : World} {a : Option Addr} {zs : List Int} {c k : Nat} (h : IntsAt w a zs) (hc : zs.length ≤ c) : IntsAt w (if c = k then a else a.map (·.add k)) (zs.drop k) := by
  intro h0
  rw [List.length_drop] at h0
  obtain ⟨b, o, rfl, hc2⟩ := h (by omega)
  rw [if_neg (by omega)]
  refine ⟨b, o + k, by simp [Addr.add], fun j hj => ?_⟩
  rw [List.length_drop] at hj
  have := hc2 (k + j) (by omega)
  rw [List.getElem?_drop, Nat.add_assoc]
  exact this
theorem ints_take {w : World} {a : Option Addr} {zs : List Int} {k : Nat} (h : IntsAt w a zs) : IntsAt w a (zs.take k) := by
  intro h0
  rw [List.length_take] at h0
  obtain ⟨b, o, rfl, hc2⟩ := h (by omega)
  refine ⟨b, o, rfl, fun j hj => ?_⟩
  rw [List.length_take] at hj
  have := hc2 j (by omega)
  rw [List.getElem?_take_of_lt (by omega)]
  exact this

theorem St.swapTwo {w0 w : World} {l : List It} {i j : It} (h : St w0 w (i :: j :: l)) : St w0 w (j :: i :: l) := h.turn fun x hx => by
  simp only [List.mem_cons] at hx ⊢
  rcases hx with h | h | h
  · exact .inr (.inl h)
  · exact .inl h
  · exact .inr (.inr h)

set_option maxRecDepth 100000 in
set_option maxHeartbeats 16000000 in
theorem walkFnFairParts (w : World) (a : Option Addr) (len cap : Nat) (zs : List Int) (h : IsRow .u8 w a len cap zs) (aX : Option Addr) (lenX capX : Nat) (zsX : List Int) (_ : IsRow .u8 w aX lenX capX zsX) (hL : Laid w) :
    Calls Tryz.prog 4 #[.slice a len cap, .slice aX lenX capX] w fun e w' => e = .returned (.bool true) ∧ Below w.heap.size w w' := by
  obtain ⟨ys, rfl, hC, S0⟩ := came_of h
  clear h
  by_cases hs : ys.length ≤ 1048576
  · have t1 : decide (1048576 < (ys.length : Int)) = false := by simp; omega
    by_cases hs2 : lenX ≤ 1048576
    · have t2 : decide (1048576 < (lenX : Int)) = false := by simp; omega
      go_enter Tryz.func4, Tryz.ntmps4
      go_wp2_with fail
      refine (DrawFairAllC_any (by exact S0) hC).mono ?_
      rintro e w1 ⟨T, a1, c1, lo, hi, ks, ak, ck, lok, hik, rfl, hT, hkl, hkb, hlo, hcap, S1⟩
      clear hkb S0 hC
      obtain ⟨n1, n2⟩ := hT.len
      have hxl := fallT_len T ks
      have HD := Lib.hid fun (W : World) (h1 : IntsAt W a1 T.zs) (h2 : IntsAt W ak ks) (hl : Laid W) => FairAll_any T a1 c1 ks ak ck W (by omega) (by omega) h1 h2 hl
      have HS := Lib.hid fun (W : World) (h1 : IntsAt W a1 T.zs) (h2 : IntsAt W ak ks) => specFairAll_any T a1 c1 ks ak ck W (by omega) (by omega) h1 h2
      obtain ⟨k, hk⟩ : ∃ k : Nat, k = lenX % (ks.length + 1) := ⟨_, rfl⟩
      have hkle : k ≤ ks.length := by rw [hk]; have := Nat.mod_lt lenX (show 0 < ks.length + 1 by omega); omega
      have m1 : ((ks.length : Int) + 1 == 0) = false := by rw [beq_eq_false_iff_ne]; omega
      have m2 : (lenX : Int).tmod ((ks.length : Int) + 1) = (k : Int) := by rw [Int.tmod_eq_emod_of_nonneg (by omega), hk]; simp
      clear hk
      have HY := Lib.hid fun (W : World) (h1 : IntsAt W a1 T.zs) (h2 : IntsAt W (if ck = k then ak else ak.map (·.add k)) (ks.drop k)) (hl : Laid W) => FairAll_any T a1 c1 (ks.drop k) _ (ck - k) W (by omega) (by simp; omega) h1 h2 hl
      have hyl := fallT_len T (ks.drop k)
      have HZ := Lib.hid fun (W : World) (ay : Option Addr) (cy : Nat) (h1 : IntsAt W ay (fallT T (ks.drop k)).zs) (h2 : IntsAt W ak (ks.take k)) (hl : Laid W) => FairAll_any (fallT T (ks.drop k)) ay cy (ks.take k) _ ck W (by omega) (by simp; omega) h1 h2 hl
      have hcs : Hid (fallOk T ks = true → fallOk T (ks.drop k) = true ∧ fallOk (fallT T (ks.drop k)) (ks.take k) = true ∧ fallT (fallT T (ks.drop k)) (ks.take k) = fallT T ks) := Lib.hid (fall_parts k)
      have hzl := fallT_len (fallT T (ks.drop k)) (ks.take k)
      simp only [List.length_drop] at HY
      simp only [List.length_take, Nat.min_eq_left hkle] at HZ
      generalize fallT (fallT T (ks.drop k)) (ks.take k) = Z at HZ hcs hzl
      generalize fallOk (fallT T (ks.drop k)) (ks.take k) = zok at HZ hcs
      generalize fallT T (ks.drop k) = Y at HY HZ hyl
      generalize fallOk T (ks.drop k) = yok at HY hcs
      generalize fallT T ks = X at hxl HD HS hcs
      generalize fallOk T ks = xok at HD HS hcs
      have S2 := S1.alloc #[.int .i64 T.t, .int .i64 T.p, .slice a1 T.zs.length c1] 25
      go_wp2_with fail
      refine (HD.out _ (by exact S2.ints 2 rfl) (by exact S2.ints 1 rfl) (hL.below S2.old hL.pos)).mono ?_
      rintro e w2 ⟨a2, c2, rfl, ho, hb⟩
      have S3 : ∃ l2 h2, St w w2 [It.own l2 h2 a2 X.zs, It.box w1.heap.size #[.int .i64 T.t, .int .i64 T.p, .slice a1 T.zs.length c1] 25, It.own lok hik ak ks, It.own lo hi a1 T.zs] := ⟨_, _, (S2.below hb).own ho⟩
      obtain ⟨lX, hX2, S3⟩ := S3
      clear S1 S2 ho hb
      obtain ⟨x0, x1, x2, x3, x4, x5, xz⟩ := facts3 (S3.cells 1 rfl)
      have S4 := S3.alloc #[.int .i64 X.t, .int .i64 X.p, .slice a2 X.zs.length c2] 25
      clear S3
      go_wp2_with fail
      clear x0 x1 x2 x3 x4 x5 xz
      refine (HS.out _ (by exact S4.ints 4 rfl) (by exact S4.ints 3 rfl)).mono ?_
      rintro e w3 ⟨a3, c3, rfl, ho, hb⟩
      have S5 := (S4.below hb).below ((Below.refl _ _).alloc (Nat.le_refl _) (.cells #[.int .i64 X.t, .int .i64 X.p, .slice a3 X.zs.length c3] 25))
      clear S4 ho hb HD HS
      have FL : Hid (∀ i : It, w3.heap.size + 1 ≤ i.lo → Far i (It.box w2.heap.size #[.int .i64 X.t, .int .i64 X.p, .slice a2 X.zs.length c2] 25 :: It.own lX hX2 a2 X.zs :: It.box w1.heap.size #[.int .i64 T.t, .int .i64 T.p, .slice a1 T.zs.length c1] 25 :: It.own lok hik ak ks :: It.own lo hi a1 T.zs :: [])) := Lib.hid fun i h => Far.older S5 (fun _ h => h) (by simpa using h)
      have S6 := S5.drew
      have SB := (S5.alloc #[.int .i64 0, .int .i64 0, .slice none 0 0] 25).drew
      simp only [World.size_alloc] at SB
      obtain ⟨x0, x1, x2, x3, x4, x5, xz⟩ := facts3 (S6.cells 2 rfl)
      obtain ⟨y0, y1, y2, y3, y4, y5, yz⟩ := facts3 (SB.cells 3 rfl)
      go_wp2_with fail
      go_cut [12, 13] (fun s12 s13 wx => ∃ (b : Nat) (ay : Option Addr) (cy ly hy : Nat), s12 = .pointer (some ⟨b, 0, none⟩) ∧ s13 = .bool yok ∧ St w wx (It.box b #[.int .i64 Y.t, .int .i64 Y.p, .slice ay Y.zs.length cy] 25 :: It.own ly hy ay Y.zs :: (It.box w2.heap.size #[.int .i64 X.t, .int .i64 X.p, .slice a2 X.zs.length c2] 25 :: It.own lX hX2 a2 X.zs :: It.box w1.heap.size #[.int .i64 T.t, .int .i64 T.p, .slice a1 T.zs.length c1] 25 :: It.own lok hik ak ks :: It.own lo hi a1 T.zs :: [])))
      case first =>
        go_region_law
          (first
            | (go_simp; go_at_call 6; refine (HY.out _ (by exact S6.ints 4 rfl) (by exact ints_drop (S6.ints 3 rfl) hcap) (hL.below S6.old hL.pos)).mono ?_; rintro e w5 ⟨ay, cy, rfl, ho, hb⟩; generalize (if ck = k then ak else Option.map (fun x => x.add k) ak) = ad; have S7 := (S6.below hb).own ho)
            | (go_simp; go_at_call 6; refine (HY.out _ (by exact SB.ints 5 rfl) (by exact ints_drop (SB.ints 4 rfl) hcap) (hL.below SB.old hL.pos)).mono ?_; rintro e w5 ⟨ay, cy, rfl, ho, hb⟩; generalize (if ck = k then ak else Option.map (fun x => x.add k) ak) = ad; have S7 := (SB.below hb).own ho; obtain ⟨z0, z1, z2, z3, z4, z5, zz⟩ := facts3 (S7.cells 1 rfl)))
        all_goals (go_wp2_with fail; go_meet)
        · have E := S7.alloc #[.int .i64 Y.t, .int .i64 Y.p, .slice ay Y.zs.length cy] 25
          refine ⟨_, ay, cy, ?_, ?_, rfl, rfl, ?_⟩
          rotate_left 2
          with_reducible exact E
        all_goals
          have E := S7.set3Box 1 rfl ⟨.inr (by simp [It.own, It.box]), FL.out _ (by simp [It.box])⟩ (by have := S5.size; simp only [World.size_alloc] at this; omega) (.int .i64 Y.t) (.int .i64 Y.p) (.slice ay Y.zs.length cy)
          simp only [List.set_cons_zero, List.set_cons_succ] at E
          refine ⟨_, ay, cy, ?_, ?_, rfl, rfl, ?_⟩
          rotate_left 2
          with_reducible exact E.swapTwo
      case rest =>
        obtain ⟨b, ay, cy, ly, hy, rfl, rfl, SR⟩ := hcut
        clear S5 S6 SB FL x0 x1 x2 x3 x4 x5 xz y0 y1 y2 y3 y4 y5 yz HY
        cases xok
        · go_wp2_with fail
          go_ret
          exact ⟨rfl, SR.old⟩
        · obtain ⟨rfl, rfl, rfl⟩ := hcs.out rfl
          clear hcs
          have HSM := Lib.hid fun (W : World) (b3 : Option Addr) (d3 : Nat) h1 h2 => SameTable_any Z Z a2 b3 c2 d3 W (by omega) (by omega) h1 h2
          have hsame : sameB Z Z = true := by simp [sameB]
          rw [hsame] at HSM
          clear hsame
          have FL : Hid (∀ i : It, wc.heap.size ≤ i.lo → Far i (It.box b #[.int .i64 Y.t, .int .i64 Y.p, .slice ay Y.zs.length cy] 25 :: It.own ly hy ay Y.zs :: (It.box w2.heap.size #[.int .i64 Z.t, .int .i64 Z.p, .slice a2 Z.zs.length c2] 25 :: It.own lX hX2 a2 Z.zs :: It.box w1.heap.size #[.int .i64 T.t, .int .i64 T.p, .slice a1 T.zs.length c1] 25 :: It.own lok hik ak ks :: It.own lo hi a1 T.zs :: []))) := Lib.hid fun i h => Far.older SR (fun _ h => h) h
          have S6 := SR.drew
          have SB := (SR.alloc #[.int .i64 0, .int .i64 0, .slice none 0 0] 25).drew
          obtain ⟨x0, x1, x2, x3, x4, x5, xz⟩ := facts3 (S6.cells 0 rfl)
          obtain ⟨y0, y1, y2, y3, y4, y5, yz⟩ := facts3 (SB.cells 1 rfl)
          have i1 : (0 : Int) ≤ (k : Int) := by omega
          have i2 : (k : Int) ≤ (ck : Int) := by omega
          go_wp2_with fail
          go_cut [14, 15] (fun s14 s15 wx => ∃ (d : Nat) (az : Option Addr) (cz lz hz : Nat), s14 = .pointer (some ⟨d, 0, none⟩) ∧ s15 = .bool true ∧ St w wx (It.box d #[.int .i64 Z.t, .int .i64 Z.p, .slice az Z.zs.length cz] 25 :: It.own lz hz az Z.zs :: (It.box b #[.int .i64 Y.t, .int .i64 Y.p, .slice ay Y.zs.length cy] 25 :: It.own ly hy ay Y.zs :: (It.box w2.heap.size #[.int .i64 Z.t, .int .i64 Z.p, .slice a2 Z.zs.length c2] 25 :: It.own lX hX2 a2 Z.zs :: It.box w1.heap.size #[.int .i64 T.t, .int .i64 T.p, .slice a1 T.zs.length c1] 25 :: It.own lok hik ak ks :: It.own lo hi a1 T.zs :: []))))
          case first =>
            go_region_law
              (first
                | (go_simp; go_at_call 6; refine (HZ.out _ ay cy (by exact S6.ints 1 rfl) (by exact ints_take (S6.ints 5 rfl)) (hL.below S6.old hL.pos)).mono ?_; rintro e w5 ⟨az, cz, rfl, ho, hb⟩; have S7 := (S6.below hb).own ho)
                | (go_simp; go_at_call 6; refine (HZ.out _ ay cy (by exact SB.ints 2 rfl) (by exact ints_take (SB.ints 6 rfl)) (hL.below SB.old hL.pos)).mono ?_; rintro e w5 ⟨az, cz, rfl, ho, hb⟩; have S7 := (SB.below hb).own ho; obtain ⟨z0, z1, z2, z3, z4, z5, zz⟩ := facts3 (S7.cells 1 rfl)))
            all_goals (go_wp2_with fail; go_meet)
            · have E := S7.alloc #[.int .i64 Z.t, .int .i64 Z.p, .slice az Z.zs.length cz] 25
              refine ⟨_, az, cz, ?_, ?_, rfl, rfl, ?_⟩
              rotate_left 2
              with_reducible exact E
            all_goals
              have E := S7.set3Box 1 rfl ⟨.inr (by simp [It.own, It.box]), FL.out _ (by simp [It.box])⟩ (by exact SR.size) (.int .i64 Z.t) (.int .i64 Z.p) (.slice az Z.zs.length cz)
              simp only [List.set_cons_zero, List.set_cons_succ] at E
              refine ⟨_, az, cz, ?_, ?_, rfl, rfl, ?_⟩
              rotate_left 2
              with_reducible exact E.swapTwo
          case rest =>
            obtain ⟨d, az, cz, lz, hz, rfl, rfl, SZ⟩ := hcut
            clear SR S6 SB FL x0 x1 x2 x3 x4 x5 xz y0 y1 y2 y3 y4 y5 yz HZ
            obtain ⟨x0, x1, x2, x3, x4, x5, xz⟩ := facts3 (SZ.cells 0 rfl)
            obtain ⟨y0, y1, y2, y3, y4, y5, yz⟩ := facts3 (SZ.cells 4 rfl)
            go_wp2_with fail
            refine (HSM.out _ _ _ (by exact SZ.ints 5 rfl) (by exact SZ.ints 1 rfl)).mono ?_
            rintro e w9 ⟨rfl, hb⟩
            have SC := SZ.below hb
            go_wp2_with fail
            go_ret
            exact ⟨rfl, SC.old⟩
    · have t2 : decide (1048576 < (lenX : Int)) = true := by simp; omega
      go_enter Tryz.func4, Tryz.ntmps4
      go_wp2_with fail
      go_ret
      exact ⟨rfl, S0.old⟩
  · have t1 : decide (1048576 < (ys.length : Int)) = true := by simp; omega
    go_enter Tryz.func4, Tryz.ntmps4
    go_wp2_with fail
    go_ret
    exact ⟨rfl, S0.old⟩

end Go.Proofs.YtkdkdmjhhgllgaaGreatDoor

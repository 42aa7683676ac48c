/-
  The law FnSwaps: the walk.
-/
import Derived.Deep.DeepCutAuto
import Derived.Test.YtflfmoiopaohiaaGreatDoorDraws2All
import Derived.Test.YtflfmoiopaohiaaGreatDoorFairAll
import Derived.Test.YtflfmoiopaohiaaGreatDoorModel6All
import Derived.Test.YtflfmoiopaohiaaGreatDoorFindI
import Derived.Test.YtflfmoiopaohiaaGreatDoorAway
import Derived.Test.YtflfmoiopaohiaaGreatDoorDrawn
import Derived.Test.YtflfmoiopaohiaaGreatDoorMath
namespace Go.Proofs.YtflfmoiopaohiaaGreatDoor
open Go.RowKit

theorem own_cell6 {w : World} {base b o : Nat} {zs : List Int} (h : OwnInts w base (some ⟨b, o, none⟩) zs) {k : Nat} {x : Int} (hk : k < zs.length) (hx : nth zs k = x) : w.cell? ⟨b, o + k, none⟩ = some (.int .i64 x) := by
  subst hx
  exact (own_at h hk).1

set_option maxHeartbeats 8000000 in
set_option maxRecDepth 100000 in
theorem walkFnSwaps (w : World) (a : Option Addr) (len cap : Nat) (zs : List Int) (h : IsRow .u8 w a len cap zs) (hL : Laid w) :
    Calls Tryz.prog 4 #[.slice a len cap] w fun e w' => e = .returned (.bool true) ∧ Below w.heap.size w w' := by
  obtain ⟨ys, rfl, hC, S0⟩ := came_of h
  clear h
  by_cases hs : ys.length ≤ 1048576
  · have t1 : decide (1048576 < (ys.length : Int)) = false := by simp; omega
    go_enter Tryz.func4, Tryz.ntmps4
    go_wp2_with fail
    refine (DrawSwapsBy_any (by exact S0) hC).mono ?_
    rintro e w1 ⟨T, a1, c1, lo, hi, key, rfl, hT, -, hlo, S1⟩
    obtain ⟨n1, n2⟩ := hT.len
    have S2 := S1.alloc #[.int .i64 T.t, .int .i64 T.p, .slice a1 T.zs.length c1] 25
    have hUl := fputT_len T key
    have hLl := fswaps_len T key
    have HW := Lib.hid fun (W : World) (h : IntsAt W a1 T.zs) (hl : Laid W) => SwapsBy_any T a1 c1 key W (by omega) h hl
    have HS := Lib.hid fun (W : World) (h : IntsAt W a1 T.zs) => specSwapsBy_any T a1 c1 key W (by omega) h
    have HP := Lib.hid fun (W : World) (h : IntsAt W a1 T.zs) (hl : Laid W) => FairPut_any T a1 c1 key W (by omega) h hl
    have HF := Lib.hid fun (k : Int) (W : World) (h : IntsAt W a1 T.zs) (hl : Laid W) => FindKey_any T a1 c1 k W (by omega) h hl
    have HA := Lib.hid fun (s : Int) (W : World) (h : IntsAt W a1 T.zs) => AwayOf_any T a1 c1 s W (by omega) h
    have HFU := Lib.hid fun (a : Option Addr) (c : Nat) (k : Int) (W : World) (h : IntsAt W a (fputT T key).zs) (hl : Laid W) => FindKey_any (fputT T key) a c k W (by omega) h hl
    have HAU := Lib.hid fun (a : Option Addr) (c : Nat) (s : Int) (W : World) (h : IntsAt W a (fputT T key).zs) => AwayOf_any (fputT T key) a c s W (by omega) h
    have HY := Lib.hid fun (h : fputOk T key = true) => @swaps_say T key h
    have HL := Lib.hid fun (W : World) (h : Below w.heap.size w W) => hL.below h hL.pos
    clear S0 hC t1 hs hT
    generalize fputT T key = U at *
    generalize fswaps T key = L at *
    generalize fputOk T key = ok at *
    have L2 := HL.out _ S2.old
    obtain ⟨x0, x1, x2, x3, x4, x5, xz⟩ := facts3 (S2.cells 0 rfl)
    go_wp2_with fail
    clear x0 x1 x2 x3 x4 x5 xz
    refine (HW.out _ (by exact S2.ints 1 rfl) L2).mono ?_
    rintro e w2 ⟨a2, c2, rfl, ho, hb⟩
    have S3 := (S2.below hb).own ho
    clear S2 S1 hb L2 ho
    obtain ⟨x0, x1, x2, x3, x4, x5, xz⟩ := facts3 (S3.cells 1 rfl)
    go_wp2_with fail
    clear x0 x1 x2 x3 x4 x5 xz
    refine (HS.out _ (by exact S3.ints 2 rfl)).mono ?_
    rintro e w3 ⟨a3, c3, rfl, _, hb⟩
    have S4 := S3.below hb
    clear S3 hb
    have L4 := HL.out _ S4.old
    obtain ⟨x0, x1, x2, x3, x4, x5, xz⟩ := facts3 (S4.cells 1 rfl)
    have bb : (ok != ok) = false := by simp
    go_wp2_with fail
    clear x0 x1 x2 x3 x4 x5 xz
    refine (HP.out _ (by exact S4.ints 2 rfl) L4).mono ?_
    rintro e w5 ⟨a5, c5, rfl, ho, hb⟩
    have S5 := ((S4.below hb).own ho).alloc #[.int .i64 U.t, .int .i64 U.p, .slice a5 U.zs.length c5] 25
    clear S4 hb L4 ho HW HS HP
    obtain ⟨x0, x1, x2, x3, x4, x5, xz⟩ := facts3 (S5.cells 3 rfl)
    obtain ⟨y0, y1, y2, y3, y4, y5, yz⟩ := facts3 (S5.cells 0 rfl)
    cases ok
    · go_wp2_with fail
      go_ret
      exact ⟨rfl, S5.old⟩
    · have HY2 := Lib.hid fun (i : Nat) (hi : i < L.length) => HY.out rfl hi
      clear HY
      go_wp2_with fail
      clear x0 x1 x2 x3 x4 x5 xz y0 y1 y2 y3 y4 y5 yz
      have ln : ((T.zs.length : Int) == 0) = false := beq_eq_false_iff_ne.2 (by omega)
      have ln2 : (T.zs.length == 0) = false := beq_eq_false_iff_ne.2 (by omega)
      have ln3 : ¬ T.zs = [] := by intro e; rw [e] at n1; simp at n1
      have HLL := Lib.hid hLl
      clear hLl
      go_loopw [11, 12, 13, 14, 15, 16, 17, 18, 59] (fun _ _ _ _ _ _ _ _ i wr => ∃ k : Nat, k ≤ L.length ∧ i = .int .i64 k ∧ St w wr [It.box w5.heap.size #[.int .i64 U.t, .int .i64 U.p, .slice a5 U.zs.length c5] 25, It.own w3.heap.size w5.heap.size a5 U.zs, It.own (w1.alloc (.cells #[.int .i64 T.t, .int .i64 T.p, .slice a1 T.zs.length c1] 25)).heap.size w2.heap.size a2 L, It.box w1.heap.size #[.int .i64 T.t, .int .i64 T.p, .slice a1 T.zs.length c1] 25, It.own lo hi a1 T.zs]) (fun _ _ _ _ _ _ _ _ i _ => L.length - (intOf i).toNat)
      case atStart => exact ⟨0, Nat.zero_le _, rfl, S5⟩
      case round =>
        obtain ⟨i, hi', rfl, Sr⟩ := hrel
        clear S5
        have bL := HLL.out
        by_cases hlt : i < L.length
        · have dk : decide ((i : Int) < (L.length : Int)) = true := decide_eq_true (by omega)
          obtain ⟨sa, sb, d, sal, sbl, hsb, hd, f1, f2, f3, f4, f5⟩ := HY2.out i hlt
          have i0 : (0 : Int) ≤ (i : Int) := by omega
          have i1 : (i : Int) < (L.length : Int) := by omega
          obtain ⟨b2, o2, k, rfl, q, K⟩ := (Sr.ints 2 rfl).at hlt
          rw [K.out] at f1 f2
          clear K
          have F1 := HF.out k
          have F2 := HFU.out a5 c5 k
          have A1 := HA.out (sa : Int)
          have A2 := HAU.out a5 c5 (sb : Int)
          rw [f1] at F1
          rw [f2] at F2
          rw [f3] at A1
          rw [f4] at A2
          have F1 := Lib.hid F1
          have F2 := Lib.hid F2
          have A1 := Lib.hid A1
          have A2 := Lib.hid A2
          have s1 : ((sa : Int) + 1).tmod (T.zs.length : Int) = (sb : Int) := by rw [Int.tmod_eq_emod_of_nonneg (by omega), hsb]; simp
          have f5 := Lib.hid f5
          clear f1 f2 f3 f4 hsb
          have Lr := HL.out _ Sr.old
          obtain ⟨x0, x1, x2, x3, x4, x5, xz⟩ := facts3 (Sr.cells 3 rfl)
          go_wp2_with fail
          clear x0 x1 x2 x3 x4 x5 xz q
          refine (F1.out _ (by exact Sr.ints 4 rfl) Lr).mono ?_
          rintro e w6 ⟨rfl, hb⟩
          have S6 := Sr.below hb
          have L6 := HL.out _ S6.old
          clear Sr hb Lr
          obtain ⟨y0, y1, y2, y3, y4, y5, yz⟩ := facts3 (S6.cells 0 rfl)
          go_wp2_with fail
          clear y0 y1 y2 y3 y4 y5 yz
          refine (F2.out _ (by exact S6.ints 1 rfl) L6).mono ?_
          rintro e w7 ⟨rfl, hb⟩
          have S7 := S6.below hb
          clear S6 hb L6
          have s0 : IntKind.i64.wrap ((sa : Int) + 1) = (sa : Int) + 1 := IntWalk.i64_in _ (by omega)
          have s2 : IntKind.i64.wrap ((d : Int) + 1) = (d : Int) + 1 := IntWalk.i64_in _ (by omega)
          have S7d := S7.drew
          obtain ⟨x0, x1, x2, x3, x4, x5, xz⟩ := facts3 (S7.cells 3 rfl)
          obtain ⟨y0, y1, y2, y3, y4, y5, yz⟩ := facts3 (S7.cells 0 rfl)
          go_wp2_with fail
          go_region_held3 (fun w' => w'.cell? ⟨w1.heap.size, 0, none⟩ = some (.int .i64 T.t) ∧ w'.cell? ⟨w1.heap.size, 1, none⟩ = some (.int .i64 T.p) ∧ w'.cell? ⟨w1.heap.size, 2, none⟩ = some (.slice a1 T.zs.length c1) ∧ w'.cell? ⟨w5.heap.size, 0, none⟩ = some (.int .i64 U.t) ∧ w'.cell? ⟨w5.heap.size, 1, none⟩ = some (.int .i64 U.p) ∧ w'.cell? ⟨w5.heap.size, 2, none⟩ = some (.slice a5 U.zs.length c5))
            (first
              | exact ⟨x0, x1, x2, y0, y1, y2⟩
              | exact ⟨(S8.three 3 rfl).1, (S8.three 3 rfl).2.1, (S8.three 3 rfl).2.2, S8.three 0 rfl⟩
              | exact ⟨(S9.three 3 rfl).1, (S9.three 3 rfl).2.1, (S9.three 3 rfl).2.2, S9.three 0 rfl⟩)
            (first
              | (go_at_call 9; with_reducible refine (A2.out _ (by exact S7d.ints 1 rfl)).mono ?_; rintro e w8 ⟨rfl, hb⟩; have S8 := S7d.below hb; clear hb)
              | (go_at_call 9; with_reducible refine (A1.out _ (by exact S8.ints 4 rfl)).mono ?_; rintro e w9 ⟨rfl, hb⟩; have S9 := S8.below hb; clear hb))
          clear S7 S7d S8 x0 x1 x2 x3 x4 x5 xz y0 y1 y2 y3 y4 y5 yz
          obtain ⟨x0, x1, x2, x3, x4, x5, xz⟩ := facts3 (S9.cells 3 rfl)
          by_cases hi0 : 0 < i
          · obtain ⟨sc, scl, g1, g2⟩ := f5.out hi0
            have dg : decide ((0 : Int) < (i : Int)) = true := decide_eq_true (by omega)
            have dg2 : decide (0 < i) = true := decide_eq_true hi0
            obtain ⟨i', rfl⟩ : ∃ i', i = i' + 1 := ⟨i - 1, by omega⟩
            rw [Nat.add_sub_cancel] at g1
            obtain ⟨b', o', k', e, q, KK⟩ := (S9.ints 2 rfl).at (show i' < L.length by omega)
            cases e
            rw [KK.out] at g1
            have F3 := HF.out k'
            rw [g1] at F3
            have F3 := Lib.hid F3
            have v0 : IntKind.i64.wrap ((sc : Int) + 1) = (sc : Int) + 1 := IntWalk.i64_in _ (by omega)
            have v1 : ((sc : Int) + 1).tmod (T.zs.length : Int) = (sa : Int) := by rw [Int.tmod_eq_emod_of_nonneg (by omega), g2]; simp
            clear g1 g2
            have i4 : (i' : Int) < (L.length : Int) := by omega
            have i5 : (0 : Int) ≤ (i' : Int) := by omega
            have i6 : IntKind.i64.wrap (i' : Int) = (i' : Int) := IntWalk.i64_in _ ⟨by omega, by omega⟩
            have i7 : decide ((0 : Int) < (i' : Int) + 1) = true := decide_eq_true (by omega)
            have hmix : Tryz.prog.follows .mixedOrders = true := by kernel_rfl
            have HF3 := Lib.hid fun (W : World) (h : Below w9.heap.size w9 W) => F3.out W (by exact (S9.below h).ints 4 rfl) (HL.out _ (S9.below h).old)
            have zt : w1.heap.size < w9.heap.size := S9.sz 3 rfl
            have zl : b2 < w9.heap.size := Nat.lt_of_not_le fun hn => by simp [World.cell?, Array.getElem?_eq_none hn] at q
            clear F1 F2 A1 A2 HY2 HF HA HFU HAU f5 F3
            go_wp2_with fail
            refine (wpIn_wide (n := 9)).1 ?_
            refine wpIn_region_quietR (fun w' => Below w9.heap.size w9 w') hmix (by kernel_rfl) (by kernel_rfl) ((Below.refl _ _).drew) ?_
            refine wpQuietIn_step (fun _ _ _ _ => trivial) (fun K hK => ?_)
            go_simp
            refine ⟨tabV T a1 c1, fun w' hb => ?_, hK _ ?_⟩
            · have q0 := (hb.cell (p := ⟨w1.heap.size, 0, none⟩) (by show w1.heap.size < _; omega)).trans x0
              have q1 := (hb.cell (p := ⟨w1.heap.size, 1, none⟩) (by show w1.heap.size < _; omega)).trans x1
              have q2 := (hb.cell (p := ⟨w1.heap.size, 2, none⟩) (by show w1.heap.size < _; omega)).trans x2
              unfold tabV
              go_simp
            clear hK K
            refine wpQuietIn_step (fun _ _ _ _ => trivial) (fun K hK => ?_)
            go_simp
            refine ⟨_, fun w' hb => rfl, hK _ ?_⟩
            clear hK K
            refine wpQuietIn_step (fun _ _ _ _ => trivial) (fun K hK => ?_)
            go_simp
            refine ⟨_, fun w' hb => rfl, hK _ ?_⟩
            clear hK K
            refine wpQuietIn_step (fun _ _ _ _ => trivial) (fun K hK => ?_)
            go_simp
            refine ⟨_, fun w' hb => rfl, hK _ ?_⟩
            clear hK K
            refine wpQuietIn_step (fun _ _ _ _ => trivial) (fun K hK => ?_)
            go_simp
            refine ⟨_, fun w' hb => rfl, hK _ ?_⟩
            clear hK K
            refine wpQuietIn_step (fun _ _ _ _ => trivial) (fun K hK => ?_)
            go_simp
            refine ⟨.int .i64 k', fun w' hb => ?_, hK _ ?_⟩
            · have q0 := (hb.cell (p := ⟨b2, o2 + i', none⟩) (by show b2 < _; omega)).trans q
              go_simp
            clear hK K
            refine wpQuietIn_step (fun _ _ _ _ => trivial) (fun K hK => ?_)
            go_simp
            refine ⟨.tuple #[.int .i64 sc, .bool (decide ((0 : Int) ≤ (sc : Int)))], fun w' hb => (callsIn_wide.2 (HF3.out w' hb)).mono ?_, hK _ ?_⟩
            · rintro e w10 ⟨rfl, hb6⟩
              exact ⟨rfl, hb.trans (hb6.mono hb.size)⟩
            clear hK K
            refine wpQuietIn_step (fun _ _ _ _ => trivial) (fun K hK => ?_)
            go_simp
            refine ⟨_, fun w' hb => rfl, hK _ ?_⟩
            clear hK K
            refine wpQuietIn_step (fun _ _ _ _ => trivial) (fun K hK => ?_)
            go_simp
            refine ⟨_, fun w' hb => rfl, hK _ ?_⟩
            clear hK K
            refine wpQuietIn_step (fun _ _ _ _ => trivial) (fun K hK => ?_)
            go_simp
            refine ⟨_, fun w' hb => rfl, hK _ ?_⟩
            clear hK K
            refine wpQuietIn_step (fun _ _ _ _ => trivial) (fun K hK => ?_)
            go_simp
            refine ⟨_, fun w' hb => rfl, hK _ ?_⟩
            clear hK K
            refine wpQuietIn_step (fun _ _ _ _ => trivial) (fun K hK => ?_)
            go_simp
            refine ⟨_, fun w' hb => rfl, hK _ ?_⟩
            clear hK K
            refine fun w10 hb => ?_
            have S10 := S9.below hb
            clear x0 x1 x2 x3 x4 x5 xz
            obtain ⟨x0, x1, x2, x3, x4, x5, xz⟩ := facts3 (S10.cells 3 rfl)
            go_wp2_with fail
            go_roundw
            case rel => exact ⟨i' + 1 + 1, by omega, by go_num, S10⟩
            case measure => simp [intOf]; omega
          · have dg : decide ((0 : Int) < (i : Int)) = false := decide_eq_false (by omega)
            have dg2 : decide (0 < i) = false := decide_eq_false hi0
            go_wp2_with fail
            go_roundw
            case rel => exact ⟨i + 1, by omega, by go_num, S9⟩
            case measure => simp [intOf]; omega
        · obtain rfl : i = L.length := by omega
          go_wp2_with fail
          go_ret
          exact ⟨rfl, Sr.old⟩
  · have t1 : decide (1048576 < (ys.length : Int)) = true := by simp; omega
    go_enter Tryz.func4, Tryz.ntmps4
    go_wp2_with fail
    go_ret
    exact ⟨rfl, S0.old⟩

end Go.Proofs.YtflfmoiopaohiaaGreatDoor

/-
  The law FnDropPut: the walk.
-/
import Derived.Test.YtpbffdjiijpigaaGreatDoorLawDrop
import Derived.Test.YtpbffdjiijpigaaGreatDoorClean
import Derived.Test.YtpbffdjiijpigaaGreatDoorVisits
import Derived.Test.YtpbffdjiijpigaaGreatDoorOt
import Derived.Test.YtpbffdjiijpigaaGreatDoorMath
namespace Go.Proofs.YtpbffdjiijpigaaGreatDoor
open Go.RowKit

set_option maxHeartbeats 4000000 in
set_option maxRecDepth 100000 in
theorem walkFnDropPut (w : World) (a : Option Addr) (len cap : Nat) (zs : List Int) (h : IsRow .u8 w a len cap zs) (hL : Laid w) :
    Calls Tryz.prog 3 #[.slice a len cap] w fun e w' => e = .returned (.bool true) ∧ Below w.heap.size w w' := by
  obtain ⟨ys, rfl, hC, S0⟩ := came_of h
  clear h
  by_cases hs : ys.length ≤ 1048576
  · have t1 : decide (1048576 < (ys.length : Int)) = false := by simp; omega
    go_enter Tryz.func3, Tryz.ntmps3
    go_wp2_with fail
    refine (DrawDropKey_any (by exact S0) hC).mono ?_
    rintro e w1 ⟨T, a1, c1, lo, hi, key, rfl, hT, ⟨k1, k2⟩, hlo, S1⟩
    obtain ⟨n1, n2⟩ := hT.len
    have hul := dropT_len T key
    have HU := Lib.hid fun (W : World) (h : IntsAt W a1 T.zs) (hl : Laid W) => DropKey_any T a1 c1 key W (by omega) h hl
    have HW := Lib.hid fun (W : World) (h : IntsAt W a1 T.zs) => specDropKey_any T a1 c1 key W (by omega) h
    have hdf := fun (h : dropOk T key = true) => again_facts h
    have hpo := fun (h : dropOk T key = true) => (again_facts h).put
    generalize dropT T key = U at hul HU HW hdf hpo
    have S2 := S1.alloc #[.int .i64 T.t, .int .i64 T.p, .slice a1 T.zs.length c1] 25
    go_wp2_with fail
    refine (HU.out _ (by exact S2.ints 1 rfl) (hL.below S2.old hL.pos)).mono ?_
    rintro e w2 ⟨a2, c2, rfl, ho, hb⟩
    have S3 : ∃ l2 h2, St w w2 [It.own l2 h2 a2 U.zs, It.box w1.heap.size #[.int .i64 T.t, .int .i64 T.p, .slice a1 T.zs.length c1] 25, It.own lo hi a1 T.zs] := ⟨_, _, (S2.below hb).own ho⟩
    obtain ⟨l2, h2, S3⟩ := S3
    clear S1 S2 ho hb
    obtain ⟨x0, x1, x2, x3, x4, x5, xz⟩ := facts3 (S3.cells 1 rfl)
    have S4 := S3.alloc #[.int .i64 U.t, .int .i64 U.p, .slice a2 U.zs.length c2] 25
    clear S3
    go_wp2_with fail
    clear x0 x1 x2 x3 x4 x5 xz
    refine (HW.out _ (by exact S4.ints 3 rfl)).mono ?_
    rintro e w3 ⟨a3, c3, rfl, ho, hb⟩
    have S5 := S4.below hb
    clear S4 ho hb
    cases ok : dropOk T key
    · go_wp2
      go_ret
      exact ⟨rfl, (S5.alloc _ _).old⟩
    · have D := hdf ok
      have hpo := hpo ok
      clear hdf
      have HPU := PutKey_any U a2 c2 key
      rw [hpo] at HPU
      have hvl := putT_len U key
      have hle := D.le
      have hsT := (sound_all.1 (by simpa [dropOk] using ok : 0 ≤ findOf T key ∧ soundB T = true).2).1
      have hsT' := (by simpa [dropOk] using ok : 0 ≤ findOf T key ∧ soundB T = true).2
      have hsV := D.snd
      have hkk := D.keys
      generalize putT U key = V at HPU hvl hle hsV hkk
      have CT := clean_keys hsT'
      have CV := clean_keys hsV
      have HCT := CleanTable_any T a1 c1
      rw [hsT'] at HCT
      have hcl := cleanT_len T
      have hcm := cleanT_len V
      have hCV := fun (a : Option Addr) (c : Nat) => CleanTable_any V a c
      simp only [hsV] at hCV
      have hk1 : keysOf (cleanT T) = sortU (cleanT T).zs := by rw [keysOf, if_pos CT.1]
      have hk2 : keysOf (cleanT V) = sortU (cleanT T).zs := by rw [keysOf, if_pos CV.1, hkk]
      have hKT := fun (a : Option Addr) (c : Nat) => KeysIn_any (cleanT T) a c
      have hKV := fun (a : Option Addr) (c : Nat) => KeysIn_any (cleanT V) a c
      simp only [hk1, CT.1] at hKT
      simp only [hk2, CV.1] at hKV
      have hsl : (sortU (cleanT T).zs).length ≤ 100 := sortTo_len _ _
      clear hk1 hk2 hkk CT CV
      generalize sortU (cleanT T).zs = K at hKT hKV hsl
      generalize cleanT T = A at HCT hcl hKT
      generalize cleanT V = B at hCV hcm hKV
      have HVT := VisitsFor_any T a1 c1 key
      have hVV := fun (a : Option Addr) (c : Nat) => VisitsFor_any V a c key
      generalize visOf T key = vt at hle HVT
      generalize visOf V key = vv at hle hVV
      have HPU := Lib.hid HPU; have HCT := Lib.hid HCT; have HCV := Lib.hid hCV; have HKT := Lib.hid hKT; have HKV := Lib.hid hKV; have HVT := Lib.hid HVT; have HVV := Lib.hid hVV
      have dle : decide (vv ≤ vt) = true := decide_eq_true hle
      clear hCV hKT hKV hVV hsT hsT' hsV hle D
      have S6 := S5.alloc #[.int .i64 U.t, .int .i64 U.p, .slice a3 U.zs.length c3] 25
      clear S5
      obtain ⟨x0, x1, x2, x3, x4, x5, xz⟩ := facts3 (S6.cells 1 rfl)
      go_wp2_with fail
      clear x0 x1 x2 x3 x4 x5 xz
      refine (HPU.out _ (by omega) (by exact S6.ints 2 rfl)).mono ?_
      rintro e w4 ⟨a4, c4, rfl, ho, hb⟩
      have S7 : ∃ l4 h4, St w w4 [It.own l4 h4 a4 V.zs, It.box w1.heap.size #[.int .i64 T.t, .int .i64 T.p, .slice a1 T.zs.length c1] 25, It.own lo hi a1 T.zs] := ⟨_, _, ((S6.below hb).own ho).turn fun i hi => by
        simp only [List.mem_cons] at hi ⊢
        rcases hi with h | h | h | h
        · exact .inl h
        · exact .inr (.inr (.inr (.inr (.inl h))))
        · exact .inr (.inr (.inr (.inr (.inr (.inl h)))))
        · cases h⟩
      obtain ⟨l4, h4, S7⟩ := S7
      clear S6 ho hb
      have S8 := S7.alloc #[.int .i64 V.t, .int .i64 V.p, .slice a4 V.zs.length c4] 25
      clear S7
      obtain ⟨x0, x1, x2, x3, x4, x5, xz⟩ := facts3 (S8.cells 2 rfl)
      go_wp2_with fail
      clear x0 x1 x2 x3 x4 x5 xz
      refine (HCT.out _ (by omega) (by exact S8.ints 3 rfl)).mono ?_
      rintro e w5 ⟨a5, c5, rfl, ho, hb⟩
      have S9 : ∃ l5 h5, St w w5 [It.own l5 h5 a5 A.zs, It.box w4.heap.size #[.int .i64 V.t, .int .i64 V.p, .slice a4 V.zs.length c4] 25, It.own l4 h4 a4 V.zs, It.box w1.heap.size #[.int .i64 T.t, .int .i64 T.p, .slice a1 T.zs.length c1] 25, It.own lo hi a1 T.zs] := ⟨_, _, (S8.below hb).own ho⟩
      obtain ⟨l5, h5, S9⟩ := S9
      clear S8 ho hb
      have S10 := S9.alloc #[.int .i64 A.t, .int .i64 A.p, .slice a5 A.zs.length c5] 25
      clear S9
      obtain ⟨x0, x1, x2, x3, x4, x5, xz⟩ := facts3 (S10.cells 2 rfl)
      go_wp2_with fail
      clear x0 x1 x2 x3 x4 x5 xz
      refine (HCV.out _ _ _ (by omega) (by exact S10.ints 3 rfl)).mono ?_
      rintro e w6 ⟨a6, c6, rfl, ho, hb⟩
      have S11 : ∃ l6 h6, St w w6 [It.own l6 h6 a6 B.zs, It.box w5.heap.size #[.int .i64 A.t, .int .i64 A.p, .slice a5 A.zs.length c5] 25, It.own l5 h5 a5 A.zs, It.box w4.heap.size #[.int .i64 V.t, .int .i64 V.p, .slice a4 V.zs.length c4] 25, It.own l4 h4 a4 V.zs, It.box w1.heap.size #[.int .i64 T.t, .int .i64 T.p, .slice a1 T.zs.length c1] 25, It.own lo hi a1 T.zs] := ⟨_, _, (S10.below hb).own ho⟩
      obtain ⟨l6, h6, S11⟩ := S11
      clear S10 ho hb
      have S12 := S11.alloc #[.int .i64 B.t, .int .i64 B.p, .slice a6 B.zs.length c6] 25
      clear S11
      obtain ⟨x0, x1, x2, x3, x4, x5, xz⟩ := facts3 (S12.cells 2 rfl)
      go_wp2_with fail
      clear x0 x1 x2 x3 x4 x5 xz
      refine (HKT.out _ _ _ (by omega) (by exact S12.ints 3 rfl)).mono ?_
      rintro e w7 ⟨a7, c7, rfl, ho, hb⟩
      have S13 := (S12.below hb).own ho
      clear S12 ho hb
      obtain ⟨x0, x1, x2, x3, x4, x5, xz⟩ := facts3 (S13.cells 1 rfl)
      go_wp2_with fail
      clear x0 x1 x2 x3 x4 x5 xz
      refine (HKV.out _ _ _ (by omega) (by exact S13.ints 2 rfl)).mono ?_
      rintro e w8 ⟨a8, c8, rfl, ho, hb⟩
      have S14 := (S13.below hb).own ho
      clear S13 ho hb
      obtain ⟨x0, x1, x2, x3, x4, x5, xz⟩ := facts3 (S14.cells 8 rfl)
      obtain ⟨y0, y1, y2, y3, y4, y5, yz⟩ := facts3 (S14.cells 6 rfl)
      have dl2 := dle
      go_wp2_with fail
      go_region_held3 (fun w' => (w'.cell? ⟨w4.heap.size, 0, none⟩ = some (.int .i64 V.t) ∧ w'.cell? ⟨w4.heap.size, 1, none⟩ = some (.int .i64 V.p) ∧ w'.cell? ⟨w4.heap.size, 2, none⟩ = some (.slice a4 V.zs.length c4)) ∧
          w'.cell? ⟨w1.heap.size, 0, none⟩ = some (.int .i64 T.t) ∧ w'.cell? ⟨w1.heap.size, 1, none⟩ = some (.int .i64 T.p) ∧ w'.cell? ⟨w1.heap.size, 2, none⟩ = some (.slice a1 T.zs.length c1))
        (first
          | exact ⟨⟨y0, y1, y2⟩, x0, x1, x2⟩
          | exact ⟨S15.three 6 rfl, S15.three 8 rfl⟩
          | exact ⟨S16.three 6 rfl, S16.three 8 rfl⟩
          | exact ⟨S17.three 6 rfl, S17.three 8 rfl⟩)
        (first
          | ((with_reducible refine (HVV.out _ _ _ (by omega) (by exact S14.drew.ints 7 rfl)).mono ?_); rintro e w9 ⟨rfl, hb⟩; have S15 := S14.drew.below hb; clear hb)
          | ((with_reducible refine (HVT.out _ (by omega) (by exact S15.ints 9 rfl)).mono ?_); rintro e w10 ⟨rfl, hb⟩; have S16 := S15.below hb; clear hb)
          | (go_at_call 19; refine (otSame_same K a7 a8 c7 c8 _ (by omega) (by exact S16.ints 1 rfl) (by exact S16.ints 0 rfl)).mono ?_; rintro e w11 ⟨rfl, hb⟩; have S17 := S16.below hb; clear hb))
      go_wp2
      go_ret
      exact ⟨rfl, S17.old⟩
  · have t1 : decide (1048576 < (ys.length : Int)) = true := by simp; omega
    go_enter Tryz.func3, Tryz.ntmps3
    go_wp2_with fail
    go_ret
    exact ⟨rfl, S0.old⟩

end Go.Proofs.YtpbffdjiijpigaaGreatDoor

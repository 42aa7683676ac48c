/-
  The law FnKeysIn: the walk.
-/
import Derived.Test.YtlhbddjaioodkaaKeysSpec
import Derived.Test.YtlhbddjaioodkaaOt
import Derived.Test.YtlhbddjaioodkaaCount
import Derived.Test.YtlhbddjaioodkaaCame
namespace Go.Proofs.Ytlhbddjaioodkaa
open Go.RowKit

set_option maxHeartbeats 4000000 in
set_option maxRecDepth 100000 in
theorem walkFnKeysIn (w : World) (a : Option Addr) (len cap : Nat) (zs : List Int) (h : IsRow .u8 w a len cap zs) :
    Calls Try.prog 4 #[.slice a len cap] w fun e w' => e = .returned (.bool true) ∧ Below w.heap.size w w' := by
  obtain ⟨ys, rfl, hC, S0⟩ := came_of h
  clear h
  by_cases hs : ys.length ≤ 1048576
  · have t1 : decide (1048576 < (ys.length : Int)) = false := by simp; omega
    go_enter Try.func4, Try.ntmps4
    go_wp2_with fail
    refine (DrawKeysIn_any (by exact S0) hC).mono ?_
    rintro e w1 ⟨T, a1, c1, lo, hi, rfl, hT, hlo, S1⟩
    obtain ⟨n1, n2⟩ := hT.len
    have hkl : (keysOf T).length ≤ 100 := by
      unfold keysOf
      split
      · exact sortTo_len T.zs 100
      · simp
    have HK : Hid (validB T = true → (keysOf T = sortU T.zs ∧ ((keysOf T).length : Int) = countK T ∧ countK T + countT T + countF T = T.zs.length ∧ (0 ≤ countK T ∧ 0 ≤ countT T ∧ 0 ≤ countF T))) := Lib.hid fun hv => by
      have h1 : keysOf T = sortU T.zs := by simp [keysOf, hv]
      have h2 := count_sum T.zs
      have h3 := sortU_count hv
      refine ⟨h1, ?_, ?_, ?_⟩
      · rw [h1]; simp [countK, hv, h3]
      · simp only [countK, countT, countF, hv, if_true]; omega
      · simp only [countK, countT, countF, hv, if_true]; omega
    have HN : Hid (validB T = false → countK T = -1) := Lib.hid fun hv => by simp [countK, hv]
    have hmem : Hid (validB T = true → ∀ x ∈ keysOf T, x ∈ T.zs) := Lib.hid fun hv x hx => by
      rw [show keysOf T = sortU T.zs by simp [keysOf, hv]] at hx
      exact (sortU_mem.1 hx).2
    have hord : Hid (validB T = true → (keysOf T).Pairwise (· < ·)) := Lib.hid fun hv => by
      rw [show keysOf T = sortU T.zs by simp [keysOf, hv]]
      exact sortU_pairwise _
    have HI := Lib.hid fun (W : World) (h1 : IntsAt W a1 T.zs) => KeysIn_any T a1 c1 W (by omega) h1
    have HS := Lib.hid fun (W : World) (h1 : IntsAt W a1 T.zs) => specKeysIn_any T a1 c1 W (by omega) h1
    have CI := Lib.hid fun (W : World) (h1 : IntsAt W a1 T.zs) => CountSlots_any T a1 c1 W (by omega) h1
    have CS := Lib.hid fun (W : World) (h1 : IntsAt W a1 T.zs) => specCountSlots_any T a1 c1 W (by omega) h1
    generalize keysOf T = xs at hkl HK hmem hord HI HS
    generalize countK T = nk at HK HN CI CS
    generalize countT T = nt at HK CI CS
    generalize countF T = nf at HK CI CS
    generalize validB T = ok at HK HN hmem hord HI HS
    have S2 := S1.alloc #[.int .i64 T.t, .int .i64 T.p, .slice a1 T.zs.length c1] 25
    go_wp2_with fail
    refine (HI.out _ (by exact S2.ints 1 rfl)).mono ?_
    rintro e w2 ⟨a2, c2, rfl, ho, hb⟩
    have S3 := (S1.alloc1 hb).own ho
    clear S1 S2 hb ho
    obtain ⟨x0, x1, x2, x3, x4, x5, _⟩ := facts3 (S3.cells 1 rfl)
    go_wp2_with fail
    clear x0 x1 x2 x3 x4 x5
    refine (HS.out _ (by exact S3.ints 2 rfl)).mono ?_
    rintro e w3 ⟨a3, c3, rfl, ho, hb⟩
    have S4 := (S3.below hb).own ho
    clear S3 hb ho
    obtain ⟨x0, x1, x2, x3, x4, x5, _⟩ := facts3 (S4.cells 2 rfl)
    go_wp2_with fail
    clear x0 x1 x2 x3 x4 x5
    refine (CI.out _ (by exact S4.ints 3 rfl)).mono ?_
    rintro e w4 ⟨rfl, hb⟩
    have S5 := S4.below hb
    clear S4 hb
    obtain ⟨x0, x1, x2, x3, x4, x5, _⟩ := facts3 (S5.cells 2 rfl)
    go_wp2_with fail
    clear x0 x1 x2 x3 x4 x5
    refine (CS.out _ (by exact S5.ints 3 rfl)).mono ?_
    rintro e w5 ⟨rfl, hb⟩
    have S6 := S5.below hb
    clear S5 hb
    go_wp2_with fail
    refine (otSame_same xs a2 a3 c2 c3 _ (by omega) (by exact S6.ints 1 rfl) (by exact S6.ints 0 rfl)).mono ?_
    rintro e w6 ⟨rfl, hb⟩
    have S7 := S6.below hb
    clear S6 hb HI HS CI CS
    cases ok
    · have N := Lib.hid (HN.out rfl)
      clear HN HK hmem hord
      go_wp2_with fail
      refine (otSame_same xs a2 a3 c2 c3 _ (by omega) (by exact S7.ints 1 rfl) (by exact S7.ints 0 rfl)).mono ?_
      rintro e w7 ⟨rfl, hb⟩
      have S8 := S7.below hb
      have m1 : (nk == -1) = true := by rw [N.out]; rfl
      go_wp2
      go_ret
      exact ⟨rfl, S8.old⟩
    · obtain ⟨hxs, e1, e2, b1, b2, b3⟩ := HK.out rfl
      have HM := Lib.hid (hmem.out rfl)
      have HO := Lib.hid (hord.out rfl)
      have E1 := Lib.hid e1
      have E2 := Lib.hid e2
      have hb1 : nk ≤ 1000 := by omega
      have hb2 : nk + nt + nf ≤ 1000 := by omega
      clear HN HK hmem hord e1 e2 hxs
      go_wp2_with fail
      obtain ⟨wo, rfl⟩ : ∃ wo : World, wo = w6 := ⟨_, rfl⟩
      go_loopw [100] (fun i wr => ∃ k : Nat, k ≤ xs.length ∧ i = .int .i64 k ∧ St w wr [It.own w2.heap.size w3.heap.size a3 xs, It.own (w1.alloc (.cells #[.int .i64 T.t, .int .i64 T.p, .slice a1 T.zs.length c1] 25)).heap.size w2.heap.size a2 xs, It.box w1.heap.size #[.int .i64 T.t, .int .i64 T.p, .slice a1 T.zs.length c1] 25, It.own lo hi a1 T.zs]) (fun i _ => xs.length - (intOf i).toNat)
      case atStart => exact ⟨0, Nat.zero_le _, rfl, S7⟩
      case round =>
        obtain ⟨k, hk, rfl, Sr⟩ := hrel
        clear S7
        obtain ⟨x0, x1, x2, x3, x4, x5, _⟩ := facts3 (Sr.cells 2 rfl)
        by_cases hlt : k < xs.length
        · obtain ⟨b, o, x, rfl, q, X⟩ := (Sr.ints 1 rfl).at hlt
          have hm : Hid (x ∈ T.zs) := Lib.hid (HM.out x (mem_at hlt X.out))
          go_wp2_with fail
          refine (otHas_any a1 c1 T.zs x _ (by omega) (by exact Sr.ints 3 rfl)).mono ?_
          rw [decide_eq_true hm.out]
          rintro e w8 ⟨rfl, rfl⟩
          by_cases hk0 : k = 0
          · subst hk0
            go_wp2
            go_roundw
            case rel => exact ⟨0 + 1, by omega, by go_num, Sr⟩
            case measure => simp [intOf]; omega
          · obtain ⟨y, q2, hY⟩ : ∃ y, wr.cell? ⟨b, o + (k - 1), none⟩ = some (.int .i64 y) ∧ Hid (nth xs (k - 1) = y) := by
              obtain ⟨b', o', y, e, q2, hY⟩ := (Sr.ints 1 rfl).at (show k - 1 < xs.length by omega)
              cases e
              exact ⟨y, q2, hY⟩
            have hlt2 : y < x := by
              have h1 := List.pairwise_iff_getElem.1 HO.out (k - 1) k (by omega) hlt (by omega)
              have e1 := X.out
              have e2 := hY.out
              rw [nth, List.getElem?_eq_getElem hlt] at e1
              rw [nth, List.getElem?_eq_getElem (show k - 1 < xs.length by omega)] at e2
              simp only [Option.getD_some] at e1 e2
              rw [← e1, ← e2]; exact h1
            have d1 : decide (0 < (k : Int)) = true := decide_eq_true (by omega)
            have d2 : decide (x ≤ y) = false := decide_eq_false (by omega)
            go_wp2
            go_roundw
            case rel => exact ⟨k + 1, by omega, by go_num, Sr⟩
            case measure => simp [intOf]; omega
        · have hle : (xs.length : Int) = nk := E1.out
          have d1 : ((xs.length : Int) == nk) = true := by rw [hle]; simp
          have d2 : (nk + nt + nf == (T.zs.length : Int)) = true := by rw [E2.out]; simp
          clear hle
          go_wp2
          go_ret
          exact ⟨rfl, Sr.old⟩
  · have t1 : decide (1048576 < (ys.length : Int)) = true := by simp; omega
    go_enter Try.func4, Try.ntmps4
    go_wp2_with fail
    go_ret
    exact ⟨rfl, S0.old⟩

end Go.Proofs.Ytlhbddjaioodkaa

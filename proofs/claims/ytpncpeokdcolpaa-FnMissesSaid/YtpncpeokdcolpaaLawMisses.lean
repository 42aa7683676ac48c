/-
  The law FnMisses: the walk.
-/
import Derived.Test.YtpncpeokdcolpaaCame
import Derived.Test.YtpncpeokdcolpaaDraw12
import Derived.Test.YtpncpeokdcolpaaCount
import Derived.Test.YtpncpeokdcolpaaCostV
import Derived.Test.YtpncpeokdcolpaaCostS
import Derived.Test.YtpncpeokdcolpaaRunsOfI
import Derived.Test.YtpncpeokdcolpaaMath
import Derived.Test.YtpncpeokdcolpaaRunsFact
namespace Go.Proofs.Ytpncpeokdcolpaa
open Go.RowKit

def triTo (rs : List (Nat × Nat)) (j : Nat) : Nat := ((rs.take j).map fun r => tri r.2).sum
theorem triTo_succ {rs : List (Nat × Nat)} {j p q : Nat} (h : rs[j]? = some (p, q)) : triTo rs (j + 1) = triTo rs j + tri q := by
  simp [triTo, List.take_add_one, h]

theorem missI_in {T : Tab} (hv : validB T = true) {k : Nat} (hk : k < T.zs.length) : missI T k = missN T k := by
  have : inB (k : Int) 0 (T.zs.length - 1) = true := inB_true (by omega)
  simp [missI, hv, this]

/-- What the law asks of a valid table and its runs. -/
theorem misses_says {T : Tab} (hv : validB T = true) : ∃ m : Nat, missAll T = m ∧ m = missTo T T.zs.length ∧ ((countF T = 0 ∧ m = T.zs.length * T.zs.length) ∨ (countF T ≠ 0 ∧ m = T.zs.length + triTo (runsL T) (runsL T).length)) := by
  refine ⟨missTo T T.zs.length, by simp [missAll, hv], rfl, ?_⟩
  simp only [countF, hv, if_true]
  by_cases c : cnt freeP T.zs T.zs.length = 0
  · exact .inl ⟨by omega, miss_total_full (free_none c)⟩
  · right
    obtain ⟨f, hf, hff⟩ := free_some c
    refine ⟨by omega, ?_⟩
    rw [miss_runs hf hff, triTo, List.take_length]

set_option maxRecDepth 100000 in
set_option maxHeartbeats 4000000 in
theorem walkFnMisses (w : World) (a : Option Addr) (len cap : Nat) (zs : List Int) (h : IsRow .u8 w a len cap zs) :
    Calls Try.prog 8 #[.slice a len cap] w fun e w' => e = .returned (.bool true) ∧ Below w.heap.size w w' := by
  obtain ⟨ys, rfl, hC, S0⟩ := came_of h
  clear h
  by_cases hs : ys.length ≤ 1048576
  · have t1 : decide (1048576 < (ys.length : Int)) = false := by simp; omega
    go_enter Try.func8, Try.ntmps8
    go_wp2_with fail
    refine (DrawMissVisits_any (by exact S0) hC).mono ?_
    rintro e w1 ⟨T, a1, c1, lo, hi, rfl, hT, hlo, S1⟩
    obtain ⟨n1, n2⟩ := hT.len
    have HI := Lib.hid fun (W : World) (h : IntsAt W a1 T.zs) => RunsOf_any T a1 c1 W (by omega) h
    have S2 := S1.alloc #[.int .i64 T.t, .int .i64 T.p, .slice a1 T.zs.length c1] 27
    go_wp2_with fail
    refine (MissVisits_any T a1 c1 _ (by omega) (by exact S2.ints 1 rfl)).mono ?_
    rintro e w2 ⟨rfl, hb⟩
    have S3 := S1.alloc1 hb
    clear S1 S2 hb
    cases hv : validB T
    · have E : missAll T = -1 := by simp [missAll, hv]
      rw [E]
      have HQ := Lib.hid fun W h => specMissVisits_any T a1 c1 W (by omega) h
      rw [E] at HQ
      rw [hv] at HI
      obtain ⟨x0, x1, x2, x3, x4, x5, xz⟩ := facts3 (S3.cells 0 rfl)
      go_wp2_with fail
      clear x0 x1 x2 x3 x4 x5 xz
      refine (HI.out _ (by exact S3.ints 1 rfl)).mono ?_
      rintro e w3 ⟨a2, c2, rfl, ho, hb⟩
      have S4 := S3.below hb
      clear S3 hb
      obtain ⟨x0, x1, x2, x3, x4, x5, xz⟩ := facts3 (S4.cells 0 rfl)
      go_wp2_with fail
      clear x0 x1 x2 x3 x4 x5 xz
      refine (HQ.out _ (by exact S4.ints 1 rfl)).mono ?_
      rintro e w4 ⟨rfl, hb⟩
      have S5 := S4.below hb
      clear S4 hb
      obtain ⟨x0, x1, x2, x3, x4, x5, xz⟩ := facts3 (S5.cells 0 rfl)
      go_wp2_with fail
      clear x0 x1 x2 x3 x4 x5 xz
      refine (HQ.out _ (by exact S5.ints 1 rfl)).mono ?_
      rintro e w5 ⟨rfl, hb⟩
      have S6 := S5.below hb
      go_wp2_with fail
      go_ret
      exact ⟨rfl, S6.old⟩
    · obtain ⟨⟨m1, m2⟩, _⟩ := valid_facts hv
      obtain ⟨m, e1, e2, hcase⟩ := misses_says hv
      have F := runs_facts hv
      have er : runsOf T = runsL T := by simp [runsOf, hv]
      have HQ := Lib.hid fun W h => specMissVisits_any T a1 c1 W (by omega) h
      rw [e1] at HQ
      rw [e1]
      rw [hv, er] at HI
      clear e1 er
      generalize runsL T = rs at HI F hcase
      have HC := Lib.hid fun (W : World) h => CountSlots_any T a1 c1 W (by omega) h
      have HMA := Lib.hid fun (W : World) (k : Nat) (hk : k < T.zs.length) h => (missI_in hv hk) ▸ MissAt_any T a1 c1 k W (by omega) h
      have HMT := Lib.hid (missTo_succ T)
      have hmm : ∀ k, k ≤ T.zs.length → missTo T k ≤ 256 := fun k hk => Nat.le_trans (missTo_le n1 k) (Nat.mul_le_mul (show k ≤ 16 by omega) m2)
      have HMM := Lib.hid hmm
      have HMN := Lib.hid fun k => (cntN_bounds (p := freeAt T k) n1).2
      have hm256 : m ≤ 256 := by rw [e2]; exact hmm _ (Nat.le_refl _)
      have HE2 := Lib.hid e2
      clear e2 hmm
      generalize countF T = cf at HC hcase
      have m0 : decide ((m : Int) < 0) = false := decide_eq_false (by omega)
      have l16 := F.len
      have HF := Lib.hid F.each
      have HL := Lib.hid (flatR_len rs)
      clear F
      obtain ⟨mr, hmr⟩ : ∃ mr, rs.length = mr := ⟨_, rfl⟩
      have HMR := Lib.hid hmr
      rw [hmr] at l16 hcase
      clear hmr
      obtain ⟨x0, x1, x2, x3, x4, x5, xz⟩ := facts3 (S3.cells 0 rfl)
      go_wp2_with fail
      clear x0 x1 x2 x3 x4 x5 xz
      refine (HI.out _ (by exact S3.ints 1 rfl)).mono ?_
      rw [HMR.out]
      rintro e w3 ⟨a2, c2, rfl, ho, hb⟩
      have S4 : ∃ l2 h2, St w w3 [It.own l2 h2 a2 (flatR rs), It.box w1.heap.size #[.int .i64 T.t, .int .i64 T.p, .slice a1 T.zs.length c1] 27, It.own lo hi a1 T.zs] := ⟨_, _, (S3.below hb).own (runs_own (by rw [HMR.out]; exact ho))⟩
      obtain ⟨l2, h2, S4⟩ := S4
      clear S3 hb ho
      obtain ⟨x0, x1, x2, x3, x4, x5, xz⟩ := facts3 (S4.cells 1 rfl)
      go_wp2_with fail
      clear x0 x1 x2 x3 x4 x5 xz
      refine (HQ.out _ (by exact S4.ints 2 rfl)).mono ?_
      rintro e w4 ⟨rfl, hb⟩
      have S5 := S4.below hb
      clear S4 hb
      obtain ⟨x0, x1, x2, x3, x4, x5, xz⟩ := facts3 (S5.cells 1 rfl)
      go_wp2_with fail
      clear x0 x1 x2 x3 x4 x5 xz
      refine (HC.out _ (by exact S5.ints 2 rfl)).mono ?_
      rintro e w5 ⟨rfl, hb⟩
      have S6 := S5.below hb
      clear S5 hb
      obtain ⟨x0, x1, x2, x3, x4, x5, xz⟩ := facts3 (S6.cells 1 rfl)
      go_wp2_with fail
      clear x0 x1 x2 x3 x4 x5 xz
      go_loopw [10, 54] (fun sm i wr => ∃ j s : Nat, j ≤ mr ∧ i = .int .i64 j ∧ sm = .int .i64 s ∧ Hid (s = T.zs.length + triTo rs j) ∧ s ≤ 16 + 136 * j ∧ St w wr [It.own l2 h2 a2 (flatR rs), It.box w1.heap.size #[.int .i64 T.t, .int .i64 T.p, .slice a1 T.zs.length c1] 27, It.own lo hi a1 T.zs]) (fun _ i _ => mr - (intOf i).toNat)
      case atStart => exact ⟨0, T.zs.length, Nat.zero_le _, rfl, rfl, Lib.hid (by simp [triTo]), by omega, S6⟩
      case round =>
        obtain ⟨j, s, hj, rfl, rfl, hS, hs16, Sr⟩ := hrel
        clear S6
        by_cases hlt : j < mr
        · obtain ⟨⟨p, q⟩, hpq⟩ : ∃ r, rs[j]? = some r := ⟨_, List.getElem?_eq_getElem (by rw [HMR.out]; exact hlt)⟩
          obtain ⟨e1, e2, e3⟩ := HF.out j p q hpq
          obtain ⟨f1, f2⟩ := flatR_at hpq
          obtain ⟨b2, o2, x, y, rfl, p0, p1, X⟩ := (Sr.ints 0 rfl).two (HL.out.trans (by rw [HMR.out])) hlt
          obtain rfl : (p : Int) = x := f1.symm.trans X.out.1
          obtain rfl : (q : Int) = y := f2.symm.trans X.out.2
          have HS1 : Hid (s + tri q = T.zs.length + triTo rs (j + 1)) := Lib.hid (by rw [triTo_succ hpq, hS.out, Nat.add_assoc])
          have S7 := Sr.alloc #[.int .i64 p, .int .i64 q] 37
          obtain ⟨t1, t2, t3⟩ := tri_le e3
          have e4 : IntKind.i64.wrap ((q : Int) * ((q : Int) + 1)) = (q : Int) * ((q : Int) + 1) := by
            have : (q : Int) * ((q : Int) + 1) = ((q * (q + 1) : Nat) : Int) := by simp
            rw [this]; exact IntWalk.i64_in _ ⟨by omega, by omega⟩
          have e5 := tri_two q
          clear f1 f2 hpq
          generalize tri q = tq at HS1 e5 t1
          obtain ⟨z0, z1, z2, z3, zz⟩ := facts2 (S7.cells 0 rfl)
          go_wp2_with fail
          have S8 := S7.turn (l' := [It.own l2 h2 (some ⟨b2, o2, none⟩) (flatR rs), It.box w1.heap.size #[.int .i64 T.t, .int .i64 T.p, .slice a1 T.zs.length c1] 27, It.own lo hi a1 T.zs]) fun i hi => List.mem_cons_of_mem _ hi
          go_roundw
          case rel => exact ⟨j + 1, s + tq, by omega, by go_num, by go_num, HS1, by omega, S8⟩
          case measure => simp [intOf]; omega
        · obtain rfl : j = mr := by omega
          obtain ⟨x0, x1, x2, x3, x4, x5, xz⟩ := facts3 (Sr.cells 1 rfl)
          rcases hcase with ⟨c0, c1'⟩ | ⟨c0, c1'⟩
          · subst c0
            have e4 : IntKind.i64.wrap ((T.zs.length : Int) * (T.zs.length : Int)) = (m : Int) := by
              have : (T.zs.length : Int) * (T.zs.length : Int) = ((T.zs.length * T.zs.length : Nat) : Int) := by simp
              rw [this, ← c1']; exact IntWalk.i64_in _ ⟨by omega, by omega⟩
            clear c1'
            go_wp2_with fail
            clear x0 x1 x2 x3 x4 x5 xz
            go_loopw [11, 80] (fun sm i wr => ∃ k : Nat, k ≤ T.zs.length ∧ i = .int .i64 k ∧ sm = .int .i64 (missTo T k : Nat) ∧ St w wr [It.own l2 h2 a2 (flatR rs), It.box w1.heap.size #[.int .i64 T.t, .int .i64 T.p, .slice a1 T.zs.length c1] 27, It.own lo hi a1 T.zs]) (fun _ i _ => T.zs.length - (intOf i).toNat)
            case atStart => exact ⟨0, Nat.zero_le _, rfl, rfl, Sr⟩
            case round =>
              obtain ⟨k, hk, rfl, rfl, Sq⟩ := hrel
              clear Sr
              obtain ⟨x0, x1, x2, x3, x4, x5, xz⟩ := facts3 (Sq.cells 1 rfl)
              by_cases hlt2 : k < T.zs.length
              · have HM := Lib.hid fun W h => HMA.out W k hlt2 h
                have HS3 := Lib.hid (HMT.out k)
                have hb1 := HMM.out k (by omega)
                have hb2 : missN T k ≤ T.zs.length := HMN.out k
                generalize hq3 : missTo T (k + 1) = q3 at HS3
                have HQ3 := Lib.hid hq3
                clear hq3
                generalize missN T k = mi at HM HS3 hb2
                generalize missTo T k = q1 at HS3 hb1 ⊢
                go_wp2_with fail
                clear x0 x1 x2 x3 x4 x5 xz
                refine (HM.out _ (by exact Sq.ints 2 rfl)).mono ?_
                rintro e w8 ⟨rfl, hb⟩
                have S9 := Sq.below hb
                clear Sq hb
                go_wp2_with fail
                go_roundw
                case rel => exact ⟨k + 1, by omega, by go_num, by rw [HQ3.out, HS3.out]; go_num, S9⟩
                case measure => simp [intOf]; omega
              · obtain rfl : k = T.zs.length := by omega
                rw [← HE2.out]
                go_wp2_with fail
                go_ret
                exact ⟨rfl, Sq.old⟩
          · have d0 : (cf == 0) = false := by simpa using c0
            obtain rfl : s = m := by rw [c1', hS.out]
            clear c1'
            go_wp2_with fail
            clear x0 x1 x2 x3 x4 x5 xz
            go_loopw [11, 80] (fun sm i wr => ∃ k : Nat, k ≤ T.zs.length ∧ i = .int .i64 k ∧ sm = .int .i64 (missTo T k : Nat) ∧ St w wr [It.own l2 h2 a2 (flatR rs), It.box w1.heap.size #[.int .i64 T.t, .int .i64 T.p, .slice a1 T.zs.length c1] 27, It.own lo hi a1 T.zs]) (fun _ i _ => T.zs.length - (intOf i).toNat)
            case atStart => exact ⟨0, Nat.zero_le _, rfl, rfl, Sr⟩
            case round =>
              obtain ⟨k, hk, rfl, rfl, Sq⟩ := hrel
              clear Sr
              obtain ⟨x0, x1, x2, x3, x4, x5, xz⟩ := facts3 (Sq.cells 1 rfl)
              by_cases hlt2 : k < T.zs.length
              · have HM := Lib.hid fun W h => HMA.out W k hlt2 h
                have HS3 := Lib.hid (HMT.out k)
                have hb1 := HMM.out k (by omega)
                have hb2 : missN T k ≤ T.zs.length := HMN.out k
                generalize hq3 : missTo T (k + 1) = q3 at HS3
                have HQ3 := Lib.hid hq3
                clear hq3
                generalize missN T k = mi at HM HS3 hb2
                generalize missTo T k = q1 at HS3 hb1 ⊢
                go_wp2_with fail
                clear x0 x1 x2 x3 x4 x5 xz
                refine (HM.out _ (by exact Sq.ints 2 rfl)).mono ?_
                rintro e w8 ⟨rfl, hb⟩
                have S9 := Sq.below hb
                clear Sq hb
                go_wp2_with fail
                go_roundw
                case rel => exact ⟨k + 1, by omega, by go_num, by rw [HQ3.out, HS3.out]; go_num, S9⟩
                case measure => simp [intOf]; omega
              · obtain rfl : k = T.zs.length := by omega
                rw [← HE2.out]
                go_wp2_with fail
                go_ret
                exact ⟨rfl, Sq.old⟩
  · have t1 : decide (1048576 < (ys.length : Int)) = true := by simp; omega
    go_enter Try.func8, Try.ntmps8
    go_wp2_with fail
    go_ret
    exact ⟨rfl, S0.old⟩

end Go.Proofs.Ytpncpeokdcolpaa

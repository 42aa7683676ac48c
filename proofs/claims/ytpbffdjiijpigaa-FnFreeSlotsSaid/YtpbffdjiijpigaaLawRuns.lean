/-
  The law FnRuns: the walk.
-/
import Derived.Test.YtpbffdjiijpigaaCame
import Derived.Test.YtpbffdjiijpigaaDraw2T
import Derived.Test.YtpbffdjiijpigaaCount
import Derived.Test.YtpbffdjiijpigaaRunsW
import Derived.Test.YtpbffdjiijpigaaRunLawM
namespace Go.Proofs.Ytpbffdjiijpigaa
open Go.RowKit

theorem flatR_at {rs : List (Nat × Nat)} {j p q : Nat} (h : rs[j]? = some (p, q)) : nth (flatR rs) (j * 2) = p ∧ nth (flatR rs) (j * 2 + 1) = q := by
  obtain ⟨c1, c2⟩ := cellsR_at h
  rw [cellsR_flat, List.getElem?_map] at c1 c2
  constructor
  · cases h1 : (flatR rs)[j * 2]? with
    | none => rw [h1] at c1; simp at c1
    | some x => rw [h1] at c1; simp at c1; simp [nth, h1, c1]
  · cases h1 : (flatR rs)[j * 2 + 1]? with
    | none => rw [h1] at c2; simp at c2
    | some x => rw [h1] at c2; simp at c2; simp [nth, h1, c2]

def sizeTo (rs : List (Nat × Nat)) (j : Nat) : Nat := ((rs.take j).map Prod.snd).sum
theorem sizeTo_succ {rs : List (Nat × Nat)} {j p q : Nat} (h : rs[j]? = some (p, q)) : sizeTo rs (j + 1) = sizeTo rs j + q := by
  simp [sizeTo, List.take_add_one, h]

/-- What the law asks of the runs of a valid table. -/
structure RunsFacts (T : Tab) (rs : List (Nat × Nat)) : Prop where
  len : rs.length ≤ 16
  n1 : 1 ≤ T.zs.length
  n2 : T.zs.length ≤ 16
  each : ∀ j p q : Nat, rs[j]? = some (p, q) → p < 16 ∧ 1 ≤ q ∧ q ≤ 16
  ord : ∀ j p q p' q' : Nat, rs[j]? = some (p, q) → rs[j + 1]? = some (p', q') → p < p'
  sum : (sizeTo rs rs.length : Int) = countK T + countT T
  free : (sizeTo rs rs.length : Int) + countF T = T.zs.length
  few : (rs.length : Int) ≤ max (countF T) 1
  c : 0 ≤ countK T ∧ 0 ≤ countT T ∧ 0 ≤ countF T ∧ countK T ≤ 16 ∧ countT T ≤ 16 ∧ countF T ≤ 16
theorem runs_facts {T : Tab} (hv : validB T = true) : RunsFacts T (runsL T) := by
  obtain ⟨⟨l1, l2⟩, _⟩ := valid_facts hv
  have ha := runs_all hv
  obtain ⟨ho, hp⟩ := runs_order hv
  have hl := runs_len l1
  have e1 : sizeTo (runsL T) (runsL T).length = ((runsL T).map Prod.snd).sum := by rw [sizeTo, List.take_length]
  have hall := cnt_all T.zs
  have hc : countK T = cnt keyP T.zs T.zs.length ∧ countT T = cnt tombP T.zs T.zs.length ∧ countF T = cnt freeP T.zs T.zs.length := by simp [countK, countT, countF, hv]
  refine ⟨by omega, l1, l2, fun j p q h => ?_, fun j p q p' q' h h' => ?_, by rw [e1]; exact ha.1, by rw [e1, ha.1]; omega, ha.2, by omega⟩
  · have hm := List.mem_of_getElem? h
    have h1 := runs_lt l1 hm
    have h2 := hp _ hm
    simp only at h1 h2
    omega
  · obtain ⟨i1, e1⟩ := List.getElem?_eq_some_iff.1 h
    obtain ⟨i2, e2⟩ := List.getElem?_eq_some_iff.1 h'
    have := (List.pairwise_iff_getElem.1 ho) j (j + 1) i1 i2 (by omega)
    rw [e1, e2] at this
    exact this

set_option maxHeartbeats 4000000 in
theorem walkFnRuns (w : World) (a : Option Addr) (len cap : Nat) (zs : List Int) (h : IsRow .u8 w a len cap zs) :
    Calls Try.prog 5 #[.slice a len cap] w fun e w' => e = .returned (.bool true) ∧ Below w.heap.size w w' := by
  obtain ⟨ys, rfl, hC, S0⟩ := came_of h
  clear h
  by_cases hs : ys.length ≤ 1048576
  · have t1 : decide (1048576 < (ys.length : Int)) = false := by simp; omega
    go_enter Try.func5, Try.ntmps5
    go_wp2_with fail
    refine (DrawRunsOf_any (by exact S0) hC).mono ?_
    rintro e w1 ⟨T, a1, c1, lo, hi, rfl, hT, hlo, S1⟩
    obtain ⟨n1, n2⟩ := hT.len
    have HI := Lib.hid fun (W : World) (h : IntsAt W a1 T.zs) => RunsOf_any T a1 c1 W (by omega) h
    have HS := Lib.hid fun (W : World) (h : IntsAt W a1 T.zs) => specRunsOf_any T a1 c1 W (by omega) h
    have hE : validB T = false → runsOf T = [] := fun h => by simp [runsOf, h]
    have hF : validB T = true → RunsFacts T (runsOf T) := fun h => by
      have : runsOf T = runsL T := by simp [runsOf, h]
      rw [this]; exact runs_facts h
    generalize runsOf T = rs at HI HS hE hF
    have S2 := S1.alloc #[.int .i64 T.t, .int .i64 T.p, .slice a1 T.zs.length c1] 29
    go_wp2_with fail
    refine (HI.out _ (by exact S2.ints 1 rfl)).mono ?_
    rintro e w2 ⟨a2, c2, rfl, ho, hb⟩
    have S3 : ∃ l2 h2, St w w2 [It.own l2 h2 a2 (flatR rs), It.box w1.heap.size #[.int .i64 T.t, .int .i64 T.p, .slice a1 T.zs.length c1] 29, It.own lo hi a1 T.zs] := ⟨_, _, (S2.below hb).own (runs_own ho)⟩
    obtain ⟨l2, h2, S3⟩ := S3
    clear S1 S2 ho hb
    obtain ⟨x0, x1, x2, x3, x4, x5, xz⟩ := facts3 (S3.cells 1 rfl)
    go_wp2_with fail
    clear x0 x1 x2 x3 x4 x5 xz
    refine (HS.out _ (by exact S3.ints 2 rfl)).mono ?_
    rintro e w3 ⟨a3, c3, rfl, ho, hb⟩
    have S4 : ∃ l3 h3, St w w3 [It.own l3 h3 a3 (flatR rs), It.own l2 h2 a2 (flatR rs), It.box w1.heap.size #[.int .i64 T.t, .int .i64 T.p, .slice a1 T.zs.length c1] 29, It.own lo hi a1 T.zs] := ⟨_, _, (S3.below hb).own (runs_own ho)⟩
    obtain ⟨l3, h3, S4⟩ := S4
    clear S3 ho hb
    cases hv : validB T
    · have hr := hE hv
      subst hr
      clear hE hF
      go_wp2
      go_ret
      exact ⟨rfl, S4.old⟩
    · have F := hF hv
      clear hE hF
      have HF := Lib.hid F
      have l16 := F.len
      have nn1 := F.n1
      have nn2 := F.n2
      clear F
      have HL := flatR_len rs
      have HL := Lib.hid HL
      obtain ⟨m, hm⟩ : ∃ m, rs.length = m := ⟨_, rfl⟩
      have HM := Lib.hid hm
      rw [hm] at l16
      rw [hm]
      clear hm
      go_wp2_with fail
      go_loopw [8, 9, 10, 60] (fun sm _ _ i wr => ∃ j s : Nat, j ≤ m ∧ i = .int .i64 j ∧ sm = .int .i64 s ∧ Hid (s = sizeTo rs j) ∧ s ≤ 16 * j ∧ St w wr [It.own l3 h3 a3 (flatR rs), It.own l2 h2 a2 (flatR rs), It.box w1.heap.size #[.int .i64 T.t, .int .i64 T.p, .slice a1 T.zs.length c1] 29, It.own lo hi a1 T.zs]) (fun _ _ _ i _ => m - (intOf i).toNat)
      case atStart => exact ⟨0, 0, Nat.zero_le _, rfl, rfl, rfl, by omega, S4⟩
      case round =>
        obtain ⟨j, s, hj, rfl, rfl, hS, hs16, Sr⟩ := hrel
        clear S4
        by_cases hlt : j < m
        · obtain ⟨⟨p, q⟩, hpq⟩ : ∃ r, rs[j]? = some r := ⟨_, List.getElem?_eq_getElem (by rw [HM.out]; exact hlt)⟩
          obtain ⟨e1, e2, e3⟩ := HF.out.each j p q hpq
          obtain ⟨f1, f2⟩ := flatR_at hpq
          obtain ⟨b2, o2, x, y, rfl, p0, p1, X⟩ := (Sr.ints 1 rfl).two (HL.out.trans (by rw [HM.out])) hlt
          obtain ⟨b3, o3, x', y', rfl, q0, q1, Y⟩ := (Sr.ints 0 rfl).two (HL.out.trans (by rw [HM.out])) hlt
          obtain rfl : (p : Int) = x := f1.symm.trans X.out.1
          obtain rfl : (q : Int) = y := f2.symm.trans X.out.2
          obtain rfl : (p : Int) = x' := f1.symm.trans Y.out.1
          obtain rfl : (q : Int) = y' := f2.symm.trans Y.out.2
          have HS1 : Hid (s + q = sizeTo rs (j + 1)) := Lib.hid (by rw [sizeTo_succ hpq, hS.out])
          have HO := Lib.hid fun p' q' (h : rs[j - 1]? = some (p', q')) (h0 : 0 < j) => HF.out.ord (j - 1) p' q' p q h (by rw [Nat.sub_add_cancel h0]; exact hpq)
          have S5 := Sr.alloc #[.int .i64 p, .int .i64 q] 37
          have dq : decide ((q : Int) < 1) = false := decide_eq_false (by omega)
          clear f1 f2 hpq
          have h16 : s + q ≤ 16 * (j + 1) := by omega
          rcases Nat.eq_zero_or_pos j with rfl | hj0
          · clear Sr
            rw [Nat.zero_mul, Nat.add_zero] at p0 p1 q0 q1
            go_wp2_with fail
            clear p0 p1
            obtain ⟨z0, z1, z2, z3, zz⟩ := facts2 (S5.cells 0 rfl)
            have q0 := Lib.cell?_alloc_some (.cells #[.int .i64 p, .int .i64 q] 37) q0
            have q1 := Lib.cell?_alloc_some (.cells #[.int .i64 p, .int .i64 q] 37) q1
            go_quiet (fail)
            have S6 := fun m => (S5.drewN m).turn (l' := [It.own l3 h3 (some ⟨b3, o3, none⟩) (flatR rs), It.own l2 h2 (some ⟨b2, o2, none⟩) (flatR rs), It.box w1.heap.size #[.int .i64 T.t, .int .i64 T.p, .slice a1 T.zs.length c1] 29, It.own lo hi a1 T.zs]) fun i hi => List.mem_cons_of_mem _ hi
            go_wp2
            go_roundw
            case rel => exact ⟨_, s + q, by omega, by go_num, by go_num, HS1, h16, S6 _⟩
            case measure => simp [intOf]; omega
          · obtain ⟨i, rfl⟩ : ∃ i, j = i + 1 := ⟨j - 1, by omega⟩
            obtain ⟨⟨p', q'⟩, hpq'⟩ : ∃ r, rs[i]? = some r := ⟨_, List.getElem?_eq_getElem (by rw [HM.out]; omega)⟩
            have hpp : p' < p := HO.out p' q' (by rw [Nat.add_sub_cancel]; exact hpq') (by omega)
            obtain ⟨f1, f2⟩ := flatR_at hpq'
            obtain ⟨b4, o4, x, y, e4, r0, r1, X⟩ := (Sr.ints 1 rfl).two (HL.out.trans (by rw [HM.out])) (show i < m by omega)
            cases e4
            obtain rfl : (p' : Int) = x := f1.symm.trans X.out.1
            clear f1 f2 hpq' r1 Sr
            have dp : decide ((p : Int) ≤ (p' : Int)) = false := decide_eq_false (by omega)
            have i0 : (0 : Int) ≤ (i : Int) + 1 := by omega
            have i1 : (i : Int) + 1 < (m : Int) := by omega
            have i2 : ((i : Int) + 1).toNat = i + 1 := by omega
            have i3 : (0 : Int) < (i : Int) + 1 := by omega
            have i4 : (i : Int) < (m : Int) := by omega
            have i5 : (0 : Int) ≤ (i : Int) := by omega
            have i7 : decide ((0 : Int) < (i : Int) + 1) = true := decide_eq_true (by omega)
            have i6 : IntKind.i64.wrap (i : Int) = (i : Int) := IntWalk.i64_in _ ⟨by omega, by omega⟩
            go_wp2_with fail
            clear p0 p1
            obtain ⟨z0, z1, z2, z3, zz⟩ := facts2 (S5.cells 0 rfl)
            have q0 := Lib.cell?_alloc_some (.cells #[.int .i64 p, .int .i64 q] 37) q0
            have q1 := Lib.cell?_alloc_some (.cells #[.int .i64 p, .int .i64 q] 37) q1
            have r0 := Lib.cell?_alloc_some (.cells #[.int .i64 p, .int .i64 q] 37) r0
            go_quiet (fail)
            have S6 := fun m => (S5.drewN m).turn (l' := [It.own l3 h3 (some ⟨b3, o3, none⟩) (flatR rs), It.own l2 h2 (some ⟨b2, o2, none⟩) (flatR rs), It.box w1.heap.size #[.int .i64 T.t, .int .i64 T.p, .slice a1 T.zs.length c1] 29, It.own lo hi a1 T.zs]) fun i hi => List.mem_cons_of_mem _ hi
            go_wp2
            go_roundw
            case rel => exact ⟨_, s + q, by omega, by go_num, by go_num, HS1, h16, S6 _⟩
            case measure => simp [intOf]; omega
        · obtain rfl : j = m := by omega
          have hsum := HF.out.sum
          have hfree := HF.out.free
          have hfew := HF.out.few
          have hc := HF.out.c
          rw [HM.out, ← hS.out] at hsum hfree
          rw [HM.out] at hfew
          have HC := Lib.hid (CountSlots_any T a1 c1)
          generalize countK T = ck at hsum hc HC
          generalize countT T = ct at hsum hc HC
          generalize countF T = cf at hfree hfew hc HC
          obtain ⟨x0, x1, x2, x3, x4, x5, xz⟩ := facts3 (Sr.cells 2 rfl)
          have ds : ((s : Int) == ck + ct) = true := by simpa using hsum
          have df : ((s : Int) + cf == (T.zs.length : Int)) = true := by simpa using hfree
          have dm : decide ((j : Int) ≤ max cf 1) = true := decide_eq_true hfew
          obtain ⟨g1, g2, g3, g4, g5, g6⟩ := hc
          clear hsum hfree hfew
          go_wp2_with fail
          clear x0 x1 x2 x3 x4 x5 xz
          refine (HC.out _ (by omega) (by exact Sr.ints 3 rfl)).mono ?_
          rintro e w4 ⟨rfl, hb⟩
          have S6 := Sr.below hb
          clear Sr hb
          obtain ⟨x0, x1, x2, x3, x4, x5, xz⟩ := facts3 (S6.cells 2 rfl)
          go_wp2
          go_ret
          exact ⟨rfl, S6.old⟩
  · have t1 : decide (1048576 < (ys.length : Int)) = true := by simp; omega
    go_enter Try.func5, Try.ntmps5
    go_wp2_with fail
    go_ret
    exact ⟨rfl, S0.old⟩

end Go.Proofs.Ytpbffdjiijpigaa

/-
  MissAt, MissVisits and WorstMiss of the program.
-/
import Derived.Test.YtpncpeokdcolpaaGreatDoorCostI
import Derived.Test.YtpncpeokdcolpaaGreatDoorFairAll
import Derived.Test.YtpncpeokdcolpaaGreatDoorBase
namespace Go.Proofs.YtpncpeokdcolpaaGreatDoor
open Go.RowKit Go.Shelf
attribute [local go_sem] Oper.semAt_some

set_option maxHeartbeats 1000000 in
theorem hasSlot_any (T : Tab) (a : Option Addr) (c : Nat) (x : Int) (w : World) :
    Calls Tryz.prog 43 #[tabV T a c, .int .i64 x] w fun e w' => e = .returned (.bool (inB x 0 (T.zs.length - 1))) ∧ Below w.heap.size w w' := by
  have S0 := (St.start w).alloc #[.int .i64 T.t, .int .i64 T.p, .slice a T.zs.length c] 27
  obtain ⟨x0, x1, x2, x3, x4, x5, xz⟩ := facts3 (S0.cells 0 rfl)
  by_cases h : 0 ≤ x
  · have d1 : decide (0 ≤ x) = true := decide_eq_true h
    have E : Hid (inB x 0 (T.zs.length - 1) = decide (x < (T.zs.length : Int))) := Lib.hid (by
      unfold inB
      rw [d1, Bool.true_and, Bool.eq_iff_iff, decide_eq_true_eq, decide_eq_true_eq]
      omega)
    go_enter Tryz.func43, Tryz.ntmps43
    go_wp2
    go_ret
    exact ⟨by rw [E.out]; rfl, S0.old⟩
  · have d1 : decide (0 ≤ x) = false := decide_eq_false h
    have E : Hid (inB x 0 (T.zs.length - 1) = false) := Lib.hid (by simp [inB, d1])
    go_enter Tryz.func43, Tryz.ntmps43
    go_wp2
    go_ret
    exact ⟨by rw [E.out]; rfl, S0.old⟩

theorem missAt1_any (cb lo hi g k n1 n3 : Nat) (d : Int) (T : Tab) (l : List It) (w0 w : World) (hk : k < T.zs.length)
    (i1 : l[n1]? = some (It.box cb #[.slice (some ⟨g, 0, none⟩) T.zs.length T.zs.length] 52)) (i3 : l[n3]? = some (It.ring lo hi g T)) (S : St w0 w l) :
    Calls Tryz.prog 60 #[.int .i64 k, .int .i64 d, .pointer (some ⟨cb, 0, none⟩)] w fun e w' => e = .returned (.bool (nth T.zs k == -1)) ∧ Below w.heap.size w w' := by
  obtain ⟨v0, v1, vz⟩ := facts1 (S.cells n1 i1)
  obtain ⟨r0, r1⟩ := S.ringAt n3 i3 k hk
  generalize nth T.zs k = x at r0
  go_enter Tryz.func60, Tryz.ntmps60
  go_wp2
  go_ret
  exact ⟨rfl, Below.refl _ _⟩

set_option maxRecDepth 100000 in
set_option maxHeartbeats 2000000 in
theorem MissAt_any (T : Tab) (a : Option Addr) (c : Nat) (home : Int) (w : World) (hx : T.zs.length ≤ 9223372036854775807) (h1 : IntsAt w a T.zs) :
    Calls Tryz.prog 17 #[tabV T a c, .int .i64 home] w fun e w' => e = .returned (.int .i64 (missI T home)) ∧ Below w.heap.size w w' := by
  have S0 := tabBox c 27 h1
  cases hv : validB T
  · go_enter Tryz.func17, Tryz.ntmps17
    go_wp2_with fail
    refine (TableValid_any T a c _ hx (by exact S0.reads 1 rfl)).mono ?_
    rw [hv]
    rintro e w1 ⟨rfl, hb⟩
    have S1 := S0.below hb
    go_wp2
    go_ret
    exact ⟨by simp [missI, hv], S1.old⟩
  · obtain ⟨⟨l1, l2⟩, _⟩ := valid_facts hv
    cases hi : inB home 0 (T.zs.length - 1)
    · go_enter Tryz.func17, Tryz.ntmps17
      go_wp2_with fail
      refine (TableValid_any T a c _ hx (by exact S0.reads 1 rfl)).mono ?_
      rw [hv]
      rintro e w1 ⟨rfl, hb⟩
      have S1 := S0.below hb
      obtain ⟨x0, x1, x2, x3, x4, x5, xz⟩ := facts3 (S1.cells 0 rfl)
      go_wp2_with fail
      refine (hasSlot_any T a c home _).mono ?_
      rw [hi]
      rintro e w2 ⟨rfl, hb⟩
      have S2 := S1.below hb
      go_wp2
      go_ret
      exact ⟨by simp [missI, hi], S2.old⟩
    · obtain ⟨s0, s1⟩ := inB_iff.1 hi
      obtain ⟨h, rfl⟩ : ∃ h : Nat, home = h := ⟨home.toNat, by omega⟩
      have hh : h < T.zs.length := by omega
      have R : Hid (missI T h = (cntN (freeAt T h) T.zs.length : Nat)) := Lib.hid (by simp [missI, hv, hi, missN])
      go_enter Tryz.func17, Tryz.ntmps17
      go_wp2_with fail
      refine (TableValid_any T a c _ hx (by exact S0.reads 1 rfl)).mono ?_
      rw [hv]
      rintro e w1 ⟨rfl, hb⟩
      have S1 := S0.below hb
      clear S0 hb
      obtain ⟨x0, x1, x2, x3, x4, x5, xz⟩ := facts3 (S1.cells 0 rfl)
      go_wp2_with fail
      refine (hasSlot_any T a c h _).mono ?_
      rw [hi]
      rintro e w2 ⟨rfl, hb⟩
      have S2 := S1.below hb
      clear S1 hb x0 x1 x2 x3 x4 x5 xz
      obtain ⟨x0, x1, x2, x3, x4, x5, xz⟩ := facts3 (S2.cells 0 rfl)
      go_wp2_with fail
      refine (ringOf_any T a c _ (by exact S2.reads 1 rfl) hv).mono ?_
      rintro e w3 ⟨g, rfl, hg0, hg, hr, hb⟩
      have S3 := (((((S2.below hb).turn (l' := []) fun i hi => by cases hi).add (It.ring w2.heap.size w3.heap.size g T) (Nat.le_refl _) ⟨hr, hg0, hg⟩).alloc #[.slice (some ⟨g, 0, none⟩) T.zs.length T.zs.length] 52).alloc #[.slice (some ⟨g, 0, none⟩) T.zs.length T.zs.length] 52).alloc #[.int .i64 h] 3
      simp only [World.size_alloc] at S3
      clear S2 hb hr x0 x1 x2 x3 x4 x5 xz
      have V := Lib.hid (visitsUpTo_any 60 w3.heap.size (w3.heap.size + 1) (w3.heap.size + 1 + 1) w2.heap.size w3.heap.size g h 1 0 3 T (freeAt T h) _ w _ l1 l2 hh rfl rfl rfl S3 (enters_of Tryz.func60 (by kernel_rfl) rfl)
        (fun d W hd hW => missAt1_any w3.heap.size w2.heap.size w3.heap.size g (stepS T h d) 2 3 d T _ w W (stepS_lt l1 h d) rfl rfl hW))
      go_wp2_with (first | (go_at_call 46; refine (ringAround_any _ _ _ _ _).mono ?_; rintro e w' ⟨rfl, rfl⟩))
      refine V.out.mono ?_
      rintro e w5 ⟨rfl, S5⟩
      go_wp2
      go_ret
      exact ⟨by rw [R.out]; rfl, S5.old⟩

/-- What homes cost: a number for each of 16 slots. -/
def costK (p : Nat → Int) : Array Value := ((List.range 16).map fun j => Value.int .i64 (p j)).toArray
def cost0 : Array Value := Array.replicate 16 (.int .i64 0)
theorem cost0_size : cost0.size = 16 := by simp [cost0]
theorem costK_size (p : Nat → Int) : (costK p).size = 16 := by simp [costK]
theorem costK_one (p : Nat → Int) : (costK p).all (·.oneCell') = true := by
  rw [Array.all_eq_true_iff_forall_mem]
  intro x hx
  simp only [costK, List.mem_toArray, List.mem_map] at hx
  obtain ⟨j, _, rfl⟩ := hx
  rfl
theorem costK_at (p : Nat → Int) {j : Nat} (hj : j < 16) : (costK p)[j]? = some (.int .i64 (p j)) := by
  unfold costK
  simp [hj]
theorem costK_eq {p q : Nat → Int} (h : ∀ j, j < 16 → p j = q j) : costK p = costK q := by
  unfold costK
  congr 1
  refine List.map_congr_left fun j hj => ?_
  rw [h j (List.mem_range.1 hj)]
theorem costK_zero : costK (fun _ => 0) = cost0 := by
  apply Array.ext_getElem?
  intro i
  by_cases hi : i < 16
  · rw [costK_at _ hi]
    simp [cost0, hi]
  · rw [Array.getElem?_eq_none (by rw [costK_size]; omega), Array.getElem?_eq_none (by rw [cost0_size]; omega)]
theorem costK_set (p : Nat → Int) {k : Nat} (hk : k < 16) (x : Int) : (costK p).setIfInBounds k (.int .i64 x) = costK fun j => if k = j then x else p j := by
  apply Array.ext_getElem?
  intro i
  rw [Array.getElem?_setIfInBounds]
  by_cases hi : i < 16
  · rw [costK_at p hi, costK_at (fun j => if k = j then x else p j) hi]
    by_cases e : k = i
    · subst e
      rw [if_pos rfl, if_pos (by rw [costK_size]; exact hk), if_pos rfl]
    · rw [if_neg e, if_neg e]
  · rw [if_neg (by omega), Array.getElem?_eq_none (by rw [costK_size]; omega), Array.getElem?_eq_none (by rw [costK_size]; omega)]
theorem infoCost : (Tryz.prog.info? 96).map (fun i => (i.zero, i.size)) = some (some (.agg cost0), 16) := by kernel_rfl
theorem sizeCost : (Tryz.prog.info? 96).map (·.size) = some 16 := by kernel_rfl
theorem zeroCost : ∀ w, (zeroValue 96).run Tryz.prog w = .ok (.agg cost0) w := by
  intro w
  have h := infoCost
  cases hi : Tryz.prog.info? 96 with
  | none => rw [hi] at h; cases h
  | some i =>
    rw [hi] at h
    simp only [Option.map_some, Option.some.injEq, Prod.mk.injEq] at h
    simp [zeroValue, typeInfo, hi, h.1]
theorem cost_setCell {w : World} {b : Nat} {c : Array Value} {t : TypeId} (h : w.heap[b]? = some (.cells c t (0, 0))) (k : Nat) (v : Value) : (w.setCell ⟨b, k, none⟩ v).heap[b]? = some (.cells (c.setIfInBounds k v) t (0, 0)) := by
  simp [World.setCell, Array.getElem?_modify, h]
theorem index_cost {C : Array Value} {j : Nat} {x : Int} (hj : j < 16) (h : C[j]? = some (.int .i64 x)) (w : World) : (Instr.index 96 (.agg C) (.int .i64 j)).run Tryz.prog w = .ok (.int .i64 x) w := by
  have h0 : (0 : Int) ≤ (j : Int) ∧ (j : Int) < 16 := by omega
  simp [Instr.index, run_underlying Tryz.underlying96, asIntOf, h0, go_sem]
  rw [if_pos hj, h]
  rfl

/-- The misses of the first k homes. -/
def costT (T : Tab) (k j : Nat) : Int := if j < k then missN T j else 0

set_option maxRecDepth 100000 in
set_option maxHeartbeats 2000000 in
theorem missesOf_any (T : Tab) (a : Option Addr) (c : Nat) (w : World) (hv : validB T = true) (h1 : IntsAt w a T.zs) :
    Calls Tryz.prog 73 #[tabV T a c] w fun e w' => e = .returned (.agg (costK (costT T T.zs.length))) ∧ Below w.heap.size w w' := by
  obtain ⟨⟨l1, l2⟩, _⟩ := valid_facts hv
  have S0 := ((tabBox c 27 h1).alloc cost0 96).alloc cost0 96
  simp only [World.size_alloc] at S0
  have HV := Lib.hid hv
  obtain ⟨x0, x1, x2, x3, x4, x5, xz⟩ := facts3 (S0.cells 2 rfl)
  go_enter Tryz.func73, Tryz.ntmps73
  go_wp2_with (refine wide_alloc rfl 96 rfl cost0 zeroCost ?_)
  clear x0 x1 x2 x3 x4 x5 xz
  go_loopw [8] (fun i wr => ∃ k : Nat, k ≤ T.zs.length ∧ i = .int .i64 k ∧ St w wr [It.box (w.heap.size + 1 + 1) (costK (costT T k)) 96, It.box (w.heap.size + 1) cost0 96, It.box w.heap.size #[.int .i64 T.t, .int .i64 T.p, .slice a T.zs.length c] 27, It.read w.heap.size a T.zs]) (fun i _ => T.zs.length - (intOf i).toNat)
  case atStart => exact ⟨0, Nat.zero_le _, rfl, by rw [show costT T 0 = (fun _ => 0) by funext j; simp [costT], costK_zero]; exact S0⟩
  case round =>
    obtain ⟨k, hk, rfl, Sr⟩ := hrel
    clear S0
    by_cases hlt : k < T.zs.length
    · have k16 : k < 16 := by omega
      have j0 : (0 : Int) ≤ (k : Int) := by omega
      have j1 : (k : Int) < 16 := by omega
      have HX : Hid ((costK (costT T k)).setIfInBounds k (.int .i64 (missN T k : Nat)) = costK (costT T (k + 1))) := Lib.hid (by
        rw [costK_set _ k16]
        refine costK_eq fun j _ => ?_
        unfold costT
        by_cases e : k = j
        · subst e; rw [if_pos rfl, if_pos (by omega)]
        · rw [if_neg e]
          by_cases c : j < k
          · rw [if_pos c, if_pos (by omega)]
          · rw [if_neg c, if_neg (by omega)])
      have hmi : missI T k = (missN T k : Nat) := by simp [missI, HV.out, inB_true (n := (k : Int)) (lo := 0) (hi := T.zs.length - 1) (by omega)]
      have HM := Lib.hid fun W h => MissAt_any T a c k W (by omega) h
      rw [hmi] at HM
      clear hmi
      generalize missN T k = m at HX HM
      obtain ⟨x0, x1, x2, x3, x4, x5, xz⟩ := facts3 (Sr.cells 2 rfl)
      go_wp2_with fail
      refine (HM.out _ (by exact Sr.reads 3 rfl)).mono ?_
      rintro e w5 ⟨rfl, hb⟩
      have S5 := Sr.below hb
      clear Sr hb x0 x1 x2 x3 x4 x5 xz
      have c0 : w5.cell? ⟨w.heap.size + 1 + 1, k, none⟩ = some (.int .i64 (costT T k k)) := by unfold World.cell?; simp only [S5.cells 0 rfl]; exact costK_at _ k16
      have f0 : w5.frozen? ⟨w.heap.size + 1 + 1, k, none⟩ = false := by unfold World.frozen?; simp [S5.cells 0 rfl]
      have S7 := S5.setBoxAt 0 rfl k (.int .i64 m) (cost_setCell (S5.cells 0 rfl) k _) (by simp [Far, It.box, It.read]; omega) (by omega)
      rw [HX.out] at S7
      go_wp2
      go_roundw
      case rel => exact ⟨k + 1, by omega, by go_num, S7⟩
      case measure => simp [intOf]; omega
    · obtain rfl : k = T.zs.length := by omega
      have SP := (Sr.turn (l' := [It.box (w.heap.size + 1) cost0 96]) fun i hi => by
        obtain rfl := List.mem_singleton.1 hi
        simp).setRowAt (c' := costK (costT T T.zs.length)) trivial (by omega)
      have hL := Sr.cells 0 rfl
      have hS := Sr.cells 1 rfl
      have h1 := costK_one (costT T T.zs.length)
      have h2 := costK_size (costT T T.zs.length)
      obtain ⟨C, hC⟩ : ∃ C, C = costK (costT T T.zs.length) := ⟨_, rfl⟩
      rw [← hC] at SP hL h1 h2
      have HC := Lib.hid hC
      clear hC
      go_wp2_with (first
        | refine wide_load rfl (.tmp 3) 96 rfl (w.heap.size + 1 + 1) 96 C (0, 0) _ rfl hL Tryz.underlying96 rfl (by rw [sizeCost, h2]) ?_
        | refine wide_store rfl (.tmp 2) (.tmp 17) 96 rfl (w.heap.size + 1) 96 cost0 C rfl rfl hS (by rw [sizeCost, h2]) (by rw [cost0_size, h2]) h1 ?_)
      refine bodyPost_ret (v := .agg C) ?_ rfl ⟨by rw [HC.out], SP.old⟩
      have hrow := run_loadVar_row (P := Tryz.prog) (wr.setRow (w.heap.size + 1) C) (w.heap.size + 1) 96 96 C (0, 0) _ (SP.cells 0 rfl) Tryz.underlying96 rfl (by rw [sizeCost, h2])
      simp [results, Tryz.results73, asAddr, Act.put, hrow]

end Go.Proofs.YtpncpeokdcolpaaGreatDoor

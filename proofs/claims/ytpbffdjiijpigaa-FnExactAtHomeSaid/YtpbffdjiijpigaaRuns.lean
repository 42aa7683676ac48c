/-
  Runs of the model: l2Runs.
-/
import Derived.Test.YtpbffdjiijpigaaMath
import Derived.Test.YtpbffdjiijpigaaWay
import Derived.Test.YtpbffdjiijpigaaBase
import Derived.Test.YtpbffdjiijpigaaPick
namespace Go.Proofs.Ytpbffdjiijpigaa
open Go.RowKit

theorem infoR : (Try.prog.info? 37).map (fun i => (i.zero, i.size, i.bytes)) = some (some (.agg #[.int .i64 0, .int .i64 0]), 2, 16) := by kernel_rfl

/-- The cells of runs. -/
def cellsR (rs : List (Nat × Nat)) : List Value := (rs.map fun r => [Value.int .i64 r.1, Value.int .i64 r.2]).flatten
theorem cellsR_snoc (rs : List (Nat × Nat)) (x y : Nat) : cellsR (rs ++ [(x, y)]) = cellsR rs ++ [Value.int .i64 x, Value.int .i64 y] := by simp [cellsR]

theorem cell_two_new (w : World) (x y : Value) (t : TypeId) : ∀ j u, [x, y][j]? = some u → (w.alloc (.cells #[x, y] t)).cell? ((⟨w.heap.size, 0, none⟩ : Addr).add j) = some u := by
  intro j u hj
  match j, hj with
  | 0, hj =>
    simp at hj
    subst hj
    rw [show (⟨w.heap.size, 0, none⟩ : Addr).add 0 = ⟨w.heap.size, 0, none⟩ by simp [Addr.add], World.cell?_alloc_at _ _ _ _ rfl]
    rfl
  | 1, hj =>
    simp at hj
    subst hj
    rw [show (⟨w.heap.size, 0, none⟩ : Addr).add 1 = ⟨w.heap.size, 1, none⟩ by simp [Addr.add], World.cell?_alloc_at _ _ _ _ rfl]
    rfl

/-- A step that writes a block that no item knows of. -/
theorem St.grown2 {w0 w w' : World} {l : List It} {row : Option Nat} (h : St w0 w l) (hg : w.grownBy w' row) (hr : ∀ k, row = some k → w0.heap.size ≤ k ∧ ∀ i ∈ l, k < i.lo ∨ i.hi ≤ k) : St w0 w' l :=
  ⟨h.old.trans (grownBy_below hg h.old.size (fun k e => (hr k e).1)), fun j hj => by
    have hj' := h.all j hj
    refine ⟨Nat.le_trans hj'.1 hg.size, j.loc w w' hj'.1 hg.size (fun k h1 h2 => hg.block k (by omega) (fun e => ?_)) hj'.2⟩
    have := (hr k e.symm).2 j hj
    omega⟩

theorem St.drewN {w0 w : World} {l : List It} (h : St w0 w l) (n : Nat) : St w0 (w.drewN n) l := h.below (below_drewN (Below.refl _ _) n)
theorem ownsRow_drewN {w : World} {base : Nat} {e : TypeId} {size : Nat} {v : Value} {n : Nat} {xs : List Value} (h : w.ownsRow base e size v n xs) (q : Nat) : (w.drewN q).ownsRow base e size v n xs := h

set_option maxHeartbeats 8000000 in
set_option maxRecDepth 100000 in
theorem l2Runs_any (T : Tab) (a : Option Addr) (c : Nat) (w : World) (hv : validB T = true) (h1 : IntsAt w a T.zs) :
    Calls Try.prog 40 #[tabV T a c] w fun e w' => ∃ (a' : Option Addr) (c' : Nat), e = .returned (.slice a' (runsL T).length c') ∧ w'.ownsRow (w.heap.size + 1) 37 2 (.slice a' (runsL T).length c') (runsL T).length (cellsR (runsL T)) ∧ Below w.heap.size w w' := by
  obtain ⟨i0, hi, hz0, hz1, hz2⟩ := info_parts infoR
  have HI := Lib.hid hi; have HZ0 := Lib.hid hz0; have HZ1 := Lib.hid hz1; have HZ2 := Lib.hid hz2
  clear hi hz0 hz1 hz2
  obtain ⟨⟨l1, l2⟩, _⟩ := valid_facts hv
  have S0 := ((St.start w).read h1).alloc #[.int .i64 T.t, .int .i64 T.p, .slice a T.zs.length c] 29
  obtain ⟨b, o, ea, _⟩ := h1 (by omega)
  subst ea
  have R0 : Hid (((w.alloc (.cells #[.int .i64 T.t, .int .i64 T.p, .slice (some ⟨b, o, none⟩) T.zs.length c] 29)).alloc (.cells #[] 37)).ownsRow (w.heap.size + 1) 37 2 (.slice (some ⟨w.heap.size + 1, 0, none⟩) 0 0) (runsTo T 0).length (cellsR (runsTo T 0))) := Lib.hid (by
    have := World.ownsRow_made (w := w.alloc (.cells #[.int .i64 T.t, .int .i64 T.p, .slice (some ⟨b, o, none⟩) T.zs.length c] 29)) (base := w.heap.size + 1) (e := 37) (size := 2) #[] 0 (by simp) (by unfold maxLen; omega) rfl
    simp only [World.size_alloc] at this
    exact this)
  have S1 := S0.below ((Below.refl _ _).alloc (Nat.le_refl _) (.cells #[] 37))
  clear S0
  obtain ⟨x0, x1, x2, x3, x4, x5, xz⟩ := facts3 (S1.cells 0 rfl)
  go_enter Try.func40, Try.ntmps40
  go_wp2_with fail
  clear x0 x1 x2 x3 x4 x5 xz
  go_loopw [3, 5, 6, 12] (fun x _ _ i wr => ∃ (j : Nat) (v : Value), j ≤ T.zs.length ∧ i = .int .i64 j ∧ x = v ∧ w.heap.size + 1 < wr.heap.size ∧ Hid (wr.ownsRow (w.heap.size + 1) 37 2 v (runsTo T j).length (cellsR (runsTo T j))) ∧
      St w wr [It.box w.heap.size #[.int .i64 T.t, .int .i64 T.p, .slice (some ⟨b, o, none⟩) T.zs.length c] 29, It.read w.heap.size (some ⟨b, o, none⟩) T.zs]) (fun _ _ _ i _ => T.zs.length - (intOf i).toNat)
  case atStart => exact ⟨0, _, Nat.zero_le _, rfl, rfl, by simp, R0, S1⟩
  case round =>
    obtain ⟨j, v, hj, rfl, rfl, hz, HR, Sr⟩ := hrel
    clear S1 R0
    have hrl := runsTo_len T j
    obtain ⟨x0, x1, x2, x3, x4, x5, xz⟩ := facts3 (Sr.cells 0 rfl)
    by_cases hlt : j < T.zs.length
    · have hpc := prev_cast l1 j
      have hpl := prevS_lt l1 j
      have HSB : Hid (startB T j = ((nth T.zs j != -1) && !(decide (1 < T.zs.length) && (nth T.zs (prevS T j) != -1)))) := Lib.hid rfl
      generalize prevS T j = pp at hpc hpl HSB
      obtain ⟨b1, o1, y1, e1, q1, Y1⟩ := (Sr.reads 1 rfl).at hlt
      cases e1
      obtain ⟨b2, o2, y2, e2, q2, Y2⟩ := (Sr.reads 1 rfl).at hpl
      cases e2
      rw [Y1.out, Y2.out] at HSB
      cases ec : (y1 == -1)
      · have ec2 : (y1 != -1) = true := by simp [bne, ec]
        by_cases h11 : 1 < T.zs.length
        · have d1 : decide (1 < (T.zs.length : Int)) = true := decide_eq_true (by omega)
          cases ed : (y2 != -1)
          · have HST : Hid (startB T j = true) := Lib.hid (by rw [HSB.out, ec2, ed]; simp)
            go_wp2_with fail
            go_quiet (fail)
            clear hpc
            go_wp2_with fail
            have SD := fun n => Sr.drewN n
            go_loopw [6] (fun s wq => ∃ m q : Nat, m ≤ T.zs.length ∧ s = .int .i64 m ∧ wq = wr.drewN q ∧ Hid (∀ k, k < m → (nth T.zs (stepS T j k) == -1) = false)) (fun s _ => T.zs.length - (intOf s).toNat)
            case atStart => exact ⟨0, _, Nat.zero_le _, rfl, rfl, Lib.hid (fun k hk => by omega)⟩
            case round =>
              obtain ⟨m, qq, hm, rfl, rfl, HF⟩ := hrel
              by_cases hmt : m < T.zs.length
              · have hs := step_cast T j m
                have hsl := stepS_lt l1 j m
                have HP : Hid (∀ b, (nth T.zs (stepS T j m) == -1) = b → (fun k => nth T.zs (stepS T j k) == -1) m = b) := Lib.hid (fun b h => h)
                obtain ⟨b3, o3, y3, e3, q3, Y3⟩ := (Sr.reads 1 rfl).at hsl
                cases e3
                rw [Y3.out] at HP
                generalize stepS T j m = kk at hs hsl q3 Y3
                cases ef : (y3 == -1)
                · have ef2 : (y3 != -1) = true := by simp [bne, ef]
                  have HF2 := Lib.hid (stop_step (p := fun k => nth T.zs (stepS T j k) == -1) HF.out (HP.out _ ef))
                  go_wp2_with fail
                  go_quiet (fail)
                  go_wp2
                  go_roundw
                  case rel => first | exact ⟨m + 1, _, by omega, by go_num, rfl, HF2⟩ | ((repeat apply Exists.intro); refine ⟨?_, rfl⟩; exact ⟨m + 1, _, by omega, by go_num, rfl, HF2⟩)
                  case measure => simp [intOf]; omega
                · have ef2 : (y3 != -1) = false := by simp [bne, ef]
                  have HM : Hid (sizeFrom T j = m) := Lib.hid (goN_eq (p := fun k => nth T.zs (stepS T j k) == -1) hmt HF.out (HP.out _ ef))
                  go_wp2_with fail
                  go_quiet (fail)
                  have HS : Hid (runsTo T (j + 1) = runsTo T j ++ [(j, m)]) := Lib.hid (by rw [runsTo_yes HST.out, HM.out])
                  have hrun := fun q => ownsRow_drewN HR.out q
                  go_wp2_with (at_builtin; refine wpList_append_own _ rfl _ _ 26 rfl (w.heap.size + 1) 37 i0 (.agg #[.int .i64 0, .int .i64 0]) 2 16 Try.underlying26 HI.out HZ0.out HZ1.out HZ2.out rfl (by decide) _ _ _ rfl ((hrun _).alloc _) ⟨wr.heap.size, 0, none⟩ 1 1 [.int .i64 j, .int .i64 m] rfl rfl (cell_two_new _ _ _ _) (by simp [Value.oneCell']) (by unfold maxLen; omega) (by omega) (by simp; omega) ?_)
                  intro v' w5 hown5 hgrow5 _
                  obtain ⟨g', cap', rfl⟩ := ownsRow_more hown5
                  have R5 : Hid (w5.ownsRow (w.heap.size + 1) 37 2 (.slice (some ⟨g', 0, none⟩) ((runsTo T j).length + 1) cap') (runsTo T (j + 1)).length (cellsR (runsTo T (j + 1)))) := Lib.hid (by
                    rw [HS.out, cellsR_snoc, List.length_append]
                    exact hown5)
                  have S5 := ((SD _).below ((Below.refl _ _).alloc (Nat.le_refl _) _)).grown2 hgrow5 (fun k hk => by
                    have h1 := (HR.out.lt k hk).1
                    refine ⟨by omega, fun i hi => ?_⟩
                    simp only [List.mem_cons, List.not_mem_nil, or_false] at hi
                    rcases hi with rfl | rfl
                    · right; show w.heap.size + 1 ≤ k; omega
                    · right; show w.heap.size ≤ k; omega)
                  have z5 : w.heap.size + 1 < w5.heap.size := by have := hgrow5.size; simp at this; omega
                  clear hown5 hgrow5
                  go_wp2
                  go_roundw
                  case rel => first | exact ⟨j + 1, _, by omega, by go_num, rfl, z5, R5, S5⟩ | ((repeat apply Exists.intro); refine ⟨?_, rfl⟩; exact ⟨j + 1, _, by omega, by go_num, rfl, z5, R5, S5⟩)
                  case measure => simp [intOf]; omega
              · have e : T.zs.length = m := by omega
                have HM : Hid (sizeFrom T j = m) := Lib.hid (by
                  have h := goN_all (p := fun k => nth T.zs (stepS T j k) == -1) (n := T.zs.length) (fun k hk => HF.out k (by omega))
                  rw [sizeFrom, h, e])
                clear e
                go_wp2_with fail
                go_quiet (fail)
                have HS : Hid (runsTo T (j + 1) = runsTo T j ++ [(j, m)]) := Lib.hid (by rw [runsTo_yes HST.out, HM.out])
                have hrun := fun q => ownsRow_drewN HR.out q
                go_wp2_with (at_builtin; refine wpList_append_own _ rfl _ _ 26 rfl (w.heap.size + 1) 37 i0 (.agg #[.int .i64 0, .int .i64 0]) 2 16 Try.underlying26 HI.out HZ0.out HZ1.out HZ2.out rfl (by decide) _ _ _ rfl ((hrun _).alloc _) ⟨wr.heap.size, 0, none⟩ 1 1 [.int .i64 j, .int .i64 m] rfl rfl (cell_two_new _ _ _ _) (by simp [Value.oneCell']) (by unfold maxLen; omega) (by omega) (by simp; omega) ?_)
                intro v' w5 hown5 hgrow5 _
                obtain ⟨g', cap', rfl⟩ := ownsRow_more hown5
                have R5 : Hid (w5.ownsRow (w.heap.size + 1) 37 2 (.slice (some ⟨g', 0, none⟩) ((runsTo T j).length + 1) cap') (runsTo T (j + 1)).length (cellsR (runsTo T (j + 1)))) := Lib.hid (by
                  rw [HS.out, cellsR_snoc, List.length_append]
                  exact hown5)
                have S5 := ((SD _).below ((Below.refl _ _).alloc (Nat.le_refl _) _)).grown2 hgrow5 (fun k hk => by
                  have h1 := (HR.out.lt k hk).1
                  refine ⟨by omega, fun i hi => ?_⟩
                  simp only [List.mem_cons, List.not_mem_nil, or_false] at hi
                  rcases hi with rfl | rfl
                  · right; show w.heap.size + 1 ≤ k; omega
                  · right; show w.heap.size ≤ k; omega)
                have z5 : w.heap.size + 1 < w5.heap.size := by have := hgrow5.size; simp at this; omega
                clear hown5 hgrow5
                go_wp2
                go_roundw
                case rel => first | exact ⟨j + 1, _, by omega, by go_num, rfl, z5, R5, S5⟩ | ((repeat apply Exists.intro); refine ⟨?_, rfl⟩; exact ⟨j + 1, _, by omega, by go_num, rfl, z5, R5, S5⟩)
                case measure => simp [intOf]; omega
          · have HS : Hid (runsTo T (j + 1) = runsTo T j) := Lib.hid (runsTo_no (by rw [HSB.out, ec2, ed]; simp [h11]))
            rw [← HS.out] at HR
            go_wp2_with fail
            go_quiet (fail)
            go_wp2
            go_roundw
            case rel => exact ⟨j + 1, _, by omega, by go_num, rfl, hz, HR, Sr.drewN _⟩
            case measure => simp [intOf]; omega
        · have d1 : decide (1 < (T.zs.length : Int)) = false := decide_eq_false (by omega)
          have HST : Hid (startB T j = true) := Lib.hid (by rw [HSB.out, ec2]; simp [h11])
          go_wp2_with fail
          go_quiet (fail)
          clear hpc
          go_wp2_with fail
          have SD := fun n => Sr.drewN n
          go_loopw [6] (fun s wq => ∃ m q : Nat, m ≤ T.zs.length ∧ s = .int .i64 m ∧ wq = wr.drewN q ∧ Hid (∀ k, k < m → (nth T.zs (stepS T j k) == -1) = false)) (fun s _ => T.zs.length - (intOf s).toNat)
          case atStart => exact ⟨0, _, Nat.zero_le _, rfl, rfl, Lib.hid (fun k hk => by omega)⟩
          case round =>
            obtain ⟨m, qq, hm, rfl, rfl, HF⟩ := hrel
            by_cases hmt : m < T.zs.length
            · have hs := step_cast T j m
              have hsl := stepS_lt l1 j m
              have HP : Hid (∀ b, (nth T.zs (stepS T j m) == -1) = b → (fun k => nth T.zs (stepS T j k) == -1) m = b) := Lib.hid (fun b h => h)
              obtain ⟨b3, o3, y3, e3, q3, Y3⟩ := (Sr.reads 1 rfl).at hsl
              cases e3
              rw [Y3.out] at HP
              generalize stepS T j m = kk at hs hsl q3 Y3
              cases ef : (y3 == -1)
              · have ef2 : (y3 != -1) = true := by simp [bne, ef]
                have HF2 := Lib.hid (stop_step (p := fun k => nth T.zs (stepS T j k) == -1) HF.out (HP.out _ ef))
                go_wp2_with fail
                go_quiet (fail)
                go_wp2
                go_roundw
                case rel => first | exact ⟨m + 1, _, by omega, by go_num, rfl, HF2⟩ | ((repeat apply Exists.intro); refine ⟨?_, rfl⟩; exact ⟨m + 1, _, by omega, by go_num, rfl, HF2⟩)
                case measure => simp [intOf]; omega
              · have ef2 : (y3 != -1) = false := by simp [bne, ef]
                have HM : Hid (sizeFrom T j = m) := Lib.hid (goN_eq (p := fun k => nth T.zs (stepS T j k) == -1) hmt HF.out (HP.out _ ef))
                go_wp2_with fail
                go_quiet (fail)
                have HS : Hid (runsTo T (j + 1) = runsTo T j ++ [(j, m)]) := Lib.hid (by rw [runsTo_yes HST.out, HM.out])
                have hrun := fun q => ownsRow_drewN HR.out q
                go_wp2_with (at_builtin; refine wpList_append_own _ rfl _ _ 26 rfl (w.heap.size + 1) 37 i0 (.agg #[.int .i64 0, .int .i64 0]) 2 16 Try.underlying26 HI.out HZ0.out HZ1.out HZ2.out rfl (by decide) _ _ _ rfl ((hrun _).alloc _) ⟨wr.heap.size, 0, none⟩ 1 1 [.int .i64 j, .int .i64 m] rfl rfl (cell_two_new _ _ _ _) (by simp [Value.oneCell']) (by unfold maxLen; omega) (by omega) (by simp; omega) ?_)
                intro v' w5 hown5 hgrow5 _
                obtain ⟨g', cap', rfl⟩ := ownsRow_more hown5
                have R5 : Hid (w5.ownsRow (w.heap.size + 1) 37 2 (.slice (some ⟨g', 0, none⟩) ((runsTo T j).length + 1) cap') (runsTo T (j + 1)).length (cellsR (runsTo T (j + 1)))) := Lib.hid (by
                  rw [HS.out, cellsR_snoc, List.length_append]
                  exact hown5)
                have S5 := ((SD _).below ((Below.refl _ _).alloc (Nat.le_refl _) _)).grown2 hgrow5 (fun k hk => by
                  have h1 := (HR.out.lt k hk).1
                  refine ⟨by omega, fun i hi => ?_⟩
                  simp only [List.mem_cons, List.not_mem_nil, or_false] at hi
                  rcases hi with rfl | rfl
                  · right; show w.heap.size + 1 ≤ k; omega
                  · right; show w.heap.size ≤ k; omega)
                have z5 : w.heap.size + 1 < w5.heap.size := by have := hgrow5.size; simp at this; omega
                clear hown5 hgrow5
                go_wp2
                go_roundw
                case rel => first | exact ⟨j + 1, _, by omega, by go_num, rfl, z5, R5, S5⟩ | ((repeat apply Exists.intro); refine ⟨?_, rfl⟩; exact ⟨j + 1, _, by omega, by go_num, rfl, z5, R5, S5⟩)
                case measure => simp [intOf]; omega
            · have e : T.zs.length = m := by omega
              have HM : Hid (sizeFrom T j = m) := Lib.hid (by
                have h := goN_all (p := fun k => nth T.zs (stepS T j k) == -1) (n := T.zs.length) (fun k hk => HF.out k (by omega))
                rw [sizeFrom, h, e])
              clear e
              go_wp2_with fail
              go_quiet (fail)
              have HS : Hid (runsTo T (j + 1) = runsTo T j ++ [(j, m)]) := Lib.hid (by rw [runsTo_yes HST.out, HM.out])
              have hrun := fun q => ownsRow_drewN HR.out q
              go_wp2_with (at_builtin; refine wpList_append_own _ rfl _ _ 26 rfl (w.heap.size + 1) 37 i0 (.agg #[.int .i64 0, .int .i64 0]) 2 16 Try.underlying26 HI.out HZ0.out HZ1.out HZ2.out rfl (by decide) _ _ _ rfl ((hrun _).alloc _) ⟨wr.heap.size, 0, none⟩ 1 1 [.int .i64 j, .int .i64 m] rfl rfl (cell_two_new _ _ _ _) (by simp [Value.oneCell']) (by unfold maxLen; omega) (by omega) (by simp; omega) ?_)
              intro v' w5 hown5 hgrow5 _
              obtain ⟨g', cap', rfl⟩ := ownsRow_more hown5
              have R5 : Hid (w5.ownsRow (w.heap.size + 1) 37 2 (.slice (some ⟨g', 0, none⟩) ((runsTo T j).length + 1) cap') (runsTo T (j + 1)).length (cellsR (runsTo T (j + 1)))) := Lib.hid (by
                rw [HS.out, cellsR_snoc, List.length_append]
                exact hown5)
              have S5 := ((SD _).below ((Below.refl _ _).alloc (Nat.le_refl _) _)).grown2 hgrow5 (fun k hk => by
                have h1 := (HR.out.lt k hk).1
                refine ⟨by omega, fun i hi => ?_⟩
                simp only [List.mem_cons, List.not_mem_nil, or_false] at hi
                rcases hi with rfl | rfl
                · right; show w.heap.size + 1 ≤ k; omega
                · right; show w.heap.size ≤ k; omega)
              have z5 : w.heap.size + 1 < w5.heap.size := by have := hgrow5.size; simp at this; omega
              clear hown5 hgrow5
              go_wp2
              go_roundw
              case rel => first | exact ⟨j + 1, _, by omega, by go_num, rfl, z5, R5, S5⟩ | ((repeat apply Exists.intro); refine ⟨?_, rfl⟩; exact ⟨j + 1, _, by omega, by go_num, rfl, z5, R5, S5⟩)
              case measure => simp [intOf]; omega
      · have HS : Hid (runsTo T (j + 1) = runsTo T j) := Lib.hid (runsTo_no (by rw [HSB.out]; simp [bne, ec]))
        rw [← HS.out] at HR
        go_wp2_with fail
        go_quiet (fail)
        go_wp2
        go_roundw
        case rel => exact ⟨j + 1, _, by omega, by go_num, rfl, hz, HR, Sr.drewN _⟩
        case measure => simp [intOf]; omega
    · have e : j = T.zs.length := by omega
      subst e
      have RD : Hid (runsL T = if (runsTo T T.zs.length).length = 0 ∧ nth T.zs 0 ≠ -1 then [(0, T.zs.length)] else runsTo T T.zs.length) := Lib.hid rfl
      obtain ⟨b4, o4, y4, e4, q4, Y4⟩ := (Sr.reads 1 rfl).at (k := 0) (by omega)
      cases e4
      rw [Nat.add_zero] at q4
      rw [Y4.out] at RD
      by_cases h0 : (runsTo T T.zs.length).length = 0
      · have hnil : runsTo T T.zs.length = [] := List.eq_nil_of_length_eq_zero h0
        rw [hnil] at HR RD
        have HR2 : Hid (wr.ownsRow (w.heap.size + 1) 37 2 u3 0 []) := HR
        clear HR h0 hrl
        obtain ⟨a5, c5, ea⟩ := ownsRow_slice HR2.out
        subst ea
        cases ey : (y4 == -1)
        · have ey2 : (y4 != -1) = true := by simp [bne, ey]
          have RL : Hid (runsL T = [(0, T.zs.length)]) := Lib.hid (by rw [RD.out, if_pos ⟨rfl, by simpa using ey⟩])
          go_wp2_with (at_builtin; refine wpList_append_own _ rfl _ _ 26 rfl (w.heap.size + 1) 37 i0 (.agg #[.int .i64 0, .int .i64 0]) 2 16 Try.underlying26 HI.out HZ0.out HZ1.out HZ2.out rfl (by decide) _ _ _ rfl (HR2.out.alloc _) ⟨wr.heap.size, 0, none⟩ 1 1 [.int .i64 0, .int .i64 T.zs.length] rfl rfl (cell_two_new _ _ _ _) (by simp [Value.oneCell']) (by unfold maxLen; omega) (by omega) (by simp; omega) ?_)
          intro v' w5 hown5 hgrow5 _
          obtain ⟨g', cap', rfl⟩ := ownsRow_more hown5
          have R5 : Hid (w5.ownsRow (w.heap.size + 1) 37 2 (.slice (some ⟨g', 0, none⟩) (runsL T).length cap') (runsL T).length (cellsR (runsL T))) := Lib.hid (by
            rw [RL.out]
            exact hown5)
          have S5 := (Sr.below ((Below.refl _ _).alloc (Nat.le_refl _) (.cells #[.int .i64 0, .int .i64 T.zs.length] 37))).grown2 hgrow5 (fun k hk => by
            have h1 := (HR2.out.lt k hk).1
            refine ⟨by omega, fun i hi => ?_⟩
            simp only [List.mem_cons, List.not_mem_nil, or_false] at hi
            rcases hi with rfl | rfl
            · right; show w.heap.size + 1 ≤ k; omega
            · right; show w.heap.size ≤ k; omega)
          clear hown5 hgrow5
          go_wp2
          go_ret
          exact ⟨_, cap', by rw [RL.out]; rfl, R5.out, S5.old⟩
        · have ey2 : (y4 != -1) = false := by simp [bne, ey]
          have RL : Hid (runsL T = []) := Lib.hid (by rw [RD.out, if_neg (fun h => h.2 (by simpa using ey))])
          go_wp2
          go_ret
          exact ⟨a5, c5, by rw [RL.out]; rfl, by rw [RL.out]; exact HR2.out, Sr.old⟩
      · have RL : Hid (runsL T = runsTo T T.zs.length) := Lib.hid (by rw [RD.out, if_neg (fun h => h0 h.1)])
        have z0 : (((runsTo T T.zs.length).length : Int) == 0) = false := beq_eq_false_iff_ne.2 (by omega)
        obtain ⟨a5, c5, ea⟩ := ownsRow_slice HR.out
        subst ea
        go_wp2
        go_ret
        exact ⟨a5, c5, by rw [RL.out]; rfl, by rw [RL.out]; exact HR.out, Sr.old⟩

end Go.Proofs.Ytpbffdjiijpigaa

/-
  AtHome, of the model and of the program.
-/
import Derived.Test.YtpbffdjiijpigaaMath
import Derived.Test.YtpbffdjiijpigaaLost
import Derived.Test.YtpbffdjiijpigaaAway
import Derived.Test.YtpbffdjiijpigaaLostI
namespace Go.Proofs.Ytpbffdjiijpigaa
open Go.RowKit

set_option maxHeartbeats 4000000 in
set_option maxRecDepth 100000 in
theorem specAtHome_any (T : Tab) (a : Option Addr) (c : Nat) (w : World) (hx : T.zs.length ≤ 9223372036854775807) (h1 : IntsAt w a T.zs) :
    Calls Try.prog 33 #[tabV T a c] w fun e w' => ∃ a' c', e = .returned (.tuple #[.slice a' (homeKeys T).length c', .bool (validB T)]) ∧ OwnInts w' w.heap.size a' (homeKeys T) ∧ Below w.heap.size w w' := by
  obtain ⟨i0, hi, hz0, hz1, hz2⟩ := info_parts Try.info3
  have HI := Lib.hid hi; have HZ0 := Lib.hid hz0; have HZ1 := Lib.hid hz1; have HZ2 := Lib.hid hz2
  clear hi hz0 hz1 hz2
  have S0 := ((St.start w).read h1).alloc #[.int .i64 T.t, .int .i64 T.p, .slice a T.zs.length c] 29
  have hrs := row_start (w.alloc (.cells #[.int .i64 T.t, .int .i64 T.p, .slice a T.zs.length c] 29))
  have S1 := (S0.below ((Below.refl _ _).alloc (Nat.le_refl _) (.cells #[] 3))).add (It.row (w.heap.size + 1) (w.heap.size + 1 + 1) (.slice (some ⟨w.heap.size + 1, 0, none⟩) 0 0) []) (by simp [It.row]) ⟨by simpa using hrs, fun k e => by cases e; simp⟩
  clear hrs S0
  cases hv : validB T
  · have R : Hid (homeKeys T = []) := Lib.hid (by simp [homeKeys, hv])
    obtain ⟨x0, x1, x2, x3, x4, x5, xz⟩ := facts3 (S1.cells 1 rfl)
    go_enter Try.func33, Try.ntmps33
    go_wp2_with fail
    refine (specTableValid_any T a c _ hx (by exact S1.reads 2 rfl)).mono ?_
    rw [hv]
    rintro e w1 ⟨rfl, hb⟩
    have S2 := S1.below hb
    go_wp2
    go_ret2
    exact ⟨_, 0, by rw [R.out]; rfl, by rw [R.out]; exact (rowInts (S2.rows 0 rfl)).mono (Nat.le_succ _), S2.old⟩
  · have HV := Lib.hid hv
    have hsl : (sortU T.zs).length ≤ 100 := sortTo_len _ _
    have HK : Hid (∀ k, k < (sortU T.zs).length → 0 ≤ nth (sortU T.zs) k ∧ nth (sortU T.zs) k ≤ 99) := Lib.hid fun k hk => (sortU_mem.1 (nth_mem' hk)).1
    have HA : Hid (hereTo T (sortU T.zs) (sortU T.zs).length = homeKeys T) := Lib.hid (hereTo_all hv)
    obtain ⟨x0, x1, x2, x3, x4, x5, xz⟩ := facts3 (S1.cells 1 rfl)
    clear hv
    go_enter Try.func33, Try.ntmps33
    go_wp2_with fail
    refine (specTableValid_any T a c _ hx (by exact S1.reads 2 rfl)).mono ?_
    rw [HV.out]
    rintro e w1 ⟨rfl, hb⟩
    have S2 := S1.below hb
    have z2 : w.heap.size + 1 < w1.heap.size := S2.sz 0 rfl
    clear S1 hb x0 x1 x2 x3 x4 x5 xz
    obtain ⟨x0, x1, x2, x3, x4, x5, xz⟩ := facts3 (S2.cells 1 rfl)
    go_wp2_with fail
    refine (l1Sort_any a c T.zs _ hx (by exact S2.reads 2 rfl)).mono ?_
    rintro e w2 ⟨a2, c2, rfl, ho, hb⟩
    have S3 := S2.below hb
    have z3 := hb.size
    have I3 := Lib.hid ho.ints
    have P3 : Hid (∀ p, a2 = some p → w1.heap.size ≤ p.block ∧ p.block < w2.heap.size) := Lib.hid ho.1
    clear S2 hb ho x0 x1 x2 x3 x4 x5 xz
    generalize sortU T.zs = ss at hsl HK HA I3
    obtain ⟨n, hn⟩ : ∃ n, ss.length = n := ⟨_, rfl⟩
    rw [hn] at HA hsl HK
    go_wp2_with fail
    go_loopw [4, 16] (fun x i wr => ∃ (j : Nat) (v : Value) (hi' : Nat), j ≤ n ∧ i = .int .i64 j ∧ x = v ∧ Hid (∀ g, v.ownBlock = some g → g = w.heap.size + 1 ∨ w2.heap.size ≤ g) ∧ w2.heap.size ≤ wr.heap.size ∧ Hid (IntsAt wr a2 ss) ∧
        St w wr [It.row (w.heap.size + 1) hi' v (hereTo T ss j), It.box w.heap.size #[.int .i64 T.t, .int .i64 T.p, .slice a T.zs.length c] 29, It.read w.heap.size a T.zs]) (fun _ i _ => n - (intOf i).toNat)
    case atStart => exact ⟨0, _, _, Nat.zero_le _, rfl, rfl, Lib.hid (fun g hg => by cases hg; exact .inl rfl), Nat.le_refl _, I3, S3⟩
    case round =>
      obtain ⟨j, v, hi', hj, rfl, rfl, HB, hz, HN, Sr⟩ := hrel
      clear S3 I3
      have hll := hereTo_len T ss j
      by_cases hlt : j < n
      · obtain ⟨x0, x1, x2, x3, x4, x5, xz⟩ := facts3 (Sr.cells 1 rfl)
        obtain ⟨b2, o2, y, ea, q, Y⟩ := HN.out.at (k := j) (by rw [hn]; exact hlt)
        subst ea
        obtain ⟨k0, k9⟩ := HK.out j hlt
        rw [Y.out] at k0 k9
        obtain ⟨p0, p1⟩ := P3.out _ rfl
        have hhb := homeN_lt HV.out y
        have hhe := homeN_eq HV.out y
        have hP : hereP T y = (nth T.zs (homeN T y) == y) := rfl
        generalize homeN T y = hh at hhb hhe hP
        obtain ⟨b3, o3, z, ea, qz, Z⟩ := (Sr.reads 2 rfl).at hhb
        subst ea
        rw [Z.out] at hP
        have HP := Lib.hid hP
        have h0 : (0 : Int) ≤ (hh : Int) := by omega
        have h1 : (hh : Int) < (T.zs.length : Int) := by omega
        have SrD := Sr.drew
        have HHE := Lib.hid hhe
        clear hP hhe
        go_wp2_with fail
        go_region_held3 (fun w' => w'.cell? ⟨w.heap.size, 0, none⟩ = some (.int .i64 T.t) ∧ w'.cell? ⟨w.heap.size, 1, none⟩ = some (.int .i64 T.p) ∧ w'.cell? ⟨w.heap.size, 2, none⟩ = some (.slice (some ⟨b3, o3, none⟩) T.zs.length c) ∧ w'.cell? ⟨b3, o3 + hh, none⟩ = some (.int .i64 z))
          (first
            | exact ⟨x0, x1, x2, qz⟩
            | exact ⟨(facts3 (S5.cells 1 rfl)).1, (facts3 (S5.cells 1 rfl)).2.1, (facts3 (S5.cells 1 rfl)).2.2.1, (hb.cell (World.block_lt_of_cell? wr _ qz)).trans qz⟩)
          (first
            | (go_at_call 65; refine (l1Home_any T _ c y _ HV.out k0 k9).mono ?_; rw [← HHE.out]; rintro e w5 ⟨rfl, hb⟩; have S5 := SrD.below hb))
        have z5 : wr.heap.size ≤ w5.heap.size := hb.size
        have HN5 : Hid (IntsAt w5 (some ⟨b2, o2, none⟩) ss) := Lib.hid ((show IntsAt wr.drew (some ⟨b2, o2, none⟩) ss from HN.out).below hb)
        clear Sr SrD HN hb x0 x1 x2 x3 x4 x5 xz q qz
        cases hzy : (z == y)
        rotate_left
        · have hf0 : hereP T y = true := HP.out.trans hzy
          have HS : Hid (hereTo T ss (j + 1) = hereTo T ss j ++ [y]) := Lib.hid (hereTo_yes (by rw [hn]; exact hlt) Y.out hf0)
          have hown := S5.rows 0 rfl
          have FR := fun v => (show Far (It.row (w.heap.size + 1) hi' v (hereTo T ss j)) [It.box w.heap.size #[.int .i64 T.t, .int .i64 T.p, .slice (some ⟨b3, o3, none⟩) T.zs.length c] 29, It.read w.heap.size (some ⟨b3, o3, none⟩) T.zs] from ⟨.inl (Nat.le_refl _), .inl (Nat.le_succ _), trivial⟩)
          go_wp2_with (at_builtin; refine wpList_append_own_at _ rfl _ _ 22 rfl (w.heap.size + 1) 3 i0 (.int .i64 0) 1 8 Try.underlying22 HI.out HZ0.out HZ1.out HZ2.out rfl (by decide) _ _ _ rfl (hown.alloc _) ⟨w5.heap.size, 0, none⟩ 1 1 [.int .i64 y] rfl rfl (cell_one_new _ _ _) (by simp [Value.oneCell']) (by unfold maxLen; omega) (by omega) (by simp; omega) ?_)
          intro v' w6 hown6 hgrow6 _ hat6
          obtain ⟨g', cap', rfl⟩ := ownsRow_more hown6
          have S6 := S5.append (x := y) (FR _) (Nat.le_succ _) _ hown6 hgrow6
          rw [← HS.out] at S6
          have z6 : w5.heap.size + 1 ≤ w6.heap.size := by have := hgrow6.size; simpa using this
          have HN6 : Hid (IntsAt w6 (some ⟨b2, o2, none⟩) ss) := Lib.hid ((HN5.out.below ((Below.refl _ _).alloc (Nat.le_refl _) _)).grown hgrow6 (fun _ e => by
            rcases HB.out b2 e.symm with h | h <;> omega))
          have HB6 : Hid (∀ g, (Value.slice (some ⟨g', 0, none⟩) ((hereTo T ss j).length + 1) cap').ownBlock = some g → g = w.heap.size + 1 ∨ w2.heap.size ≤ g) := Lib.hid (fun g hg => by
            rcases hat6 with h | h
            · exact HB.out g (by rw [← h]; exact hg)
            · rw [hg] at h
              have : g = _ := Option.some.inj h
              right; rw [this]; first | omega | (simp; omega))
          clear hown6 hgrow6 hat6 hown FR S5 HN5
          go_wp2
          go_roundw
          case rel => exact ⟨j + 1, _, w6.heap.size, by omega, by go_num, rfl, HB6, by omega, HN6, S6⟩
          case measure => simp [intOf]; omega
        · have hf0 : hereP T y = false := HP.out.trans hzy
          have HS : Hid (hereTo T ss (j + 1) = hereTo T ss j) := Lib.hid (hereTo_no (by rw [hn]; exact hlt) Y.out hf0)
          rw [← HS.out] at S5
          go_wp2
          go_roundw
          case rel => exact ⟨j + 1, _, hi', by omega, by go_num, rfl, HB, by omega, HN5, S5⟩
          case measure => simp [intOf]; omega
      · obtain rfl : j = n := by omega
        obtain ⟨a5, c5, rfl⟩ := ownsRow_slice (Sr.rows 0 rfl)
        have O5 := Lib.hid (rowInts (Sr.rows 0 rfl))
        rw [HA.out] at O5 Sr
        rw [HA.out]
        go_wp2
        go_ret2
        exact ⟨a5, c5, rfl, O5.out.mono (Nat.le_succ _), Sr.old⟩

set_option maxHeartbeats 4000000 in
set_option maxRecDepth 100000 in
theorem AtHome_any (T : Tab) (a : Option Addr) (c : Nat) (w : World) (hx : T.zs.length ≤ 9223372036854775807) (h1 : IntsAt w a T.zs) :
    Calls Try.prog 34 #[tabV T a c] w (IntsRes (homeKeys T) (validB T) w) := by
  obtain ⟨i0, hi, hz0, hz1, hz2⟩ := info_parts Try.info3
  have HI := Lib.hid hi; have HZ0 := Lib.hid hz0; have HZ1 := Lib.hid hz1; have HZ2 := Lib.hid hz2
  clear hi hz0 hz1 hz2
  have S0 := ((St.start w).read h1).alloc #[.int .i64 T.t, .int .i64 T.p, .slice a T.zs.length c] 29
  obtain ⟨x0, x1, x2, x3, x4, x5, xz⟩ := facts3 (S0.cells 0 rfl)
  cases hv : validB T
  · have R : Hid (homeKeys T = []) := Lib.hid (by simp [homeKeys, hv])
    go_enter Try.func34, Try.ntmps34
    go_wp2_with fail
    refine (TableValid_any T a c _ hx (by exact S0.reads 1 rfl)).mono ?_
    rw [hv]
    rintro e w1 ⟨rfl, hb⟩
    have S1 := S0.below hb
    go_wp2
    go_ret2
    exact ⟨none, 0, by rw [R.out]; rfl, by rw [R.out]; exact OwnInts.nil _ _, S1.old⟩
  · obtain ⟨⟨l1, l2⟩, _, _, hgood⟩ := valid_facts hv
    have HG := Lib.hid hgood
    have HA : Hid (((hereL T T.zs.length).mergeSort fun x y => decide (x ≤ y)) = homeKeys T) := Lib.hid (by
      rw [hereL_all, homeKeys, if_pos hv]
      exact sort_lost hgood _)
    have HZ : Hid (∀ j, j < T.zs.length → (awayOf T j == 0) = (inB (nth T.zs j) 0 99 && hereP T (nth T.zs j))) := Lib.hid fun j hj => away_zero hv hj
    go_enter Try.func34, Try.ntmps34
    go_wp2_with fail
    refine (TableValid_any T a c _ hx (by exact S0.reads 1 rfl)).mono ?_
    rw [hv]
    rintro e w1 ⟨rfl, hb⟩
    have S1 := S0.below hb
    have z1 : w.heap.size + 1 ≤ w1.heap.size := S1.sz 0 rfl
    clear S0 hb x0 x1 x2 x3 x4 x5 xz hgood
    obtain ⟨x0, x1, x2, x3, x4, x5, xz⟩ := facts3 (S1.cells 0 rfl)
    go_wp2_with fail
    clear x0 x1 x2 x3 x4 x5 xz
    go_loopw [4, 5, 6, 13] (fun x _ _ i wr => ∃ (j : Nat) (v : Value), j ≤ T.zs.length ∧ i = .int .i64 j ∧ x = v ∧ w1.heap.size ≤ wr.heap.size ∧ Hid (wr.ownsRow w1.heap.size 3 1 v (hereL T j).length ((hereL T j).map (Value.int .i64))) ∧
        St w wr [It.box w.heap.size #[.int .i64 T.t, .int .i64 T.p, .slice a T.zs.length c] 29, It.read w.heap.size a T.zs]) (fun _ _ _ i _ => T.zs.length - (intOf i).toNat)
    case atStart => exact ⟨0, _, Nat.zero_le _, rfl, rfl, Nat.le_refl _, Lib.hid (World.ownsRow_nil _ _ _ _), S1⟩
    case round =>
      obtain ⟨j, v, hj, rfl, rfl, hz, HR, Sr⟩ := hrel
      clear S1
      have hll := hereL_len T j
      by_cases hlt : j < T.zs.length
      · obtain ⟨x0, x1, x2, x3, x4, x5, xz⟩ := facts3 (Sr.cells 0 rfl)
        obtain ⟨b, o, x, ea, q, X⟩ := (Sr.reads 1 rfl).at hlt
        subst ea
        have haw := HZ.out j hlt
        rw [X.out] at haw
        have HAW := Lib.hid (AwayOf_any T (some ⟨b, o, none⟩) c (j : Int))
        generalize awayOf T j = aw at haw HAW
        go_wp2_with fail
        clear x0 x1 x2 x3 x4 x5 xz q
        refine (HAW.out _ hx (by exact Sr.reads 1 rfl)).mono ?_
        rintro e w5 ⟨rfl, hb⟩
        have S5 := Sr.below hb
        have R5 := Lib.hid (ownsRow_below HR.out hb)
        have z5 := hb.size
        clear Sr HR hb
        cases hp : (inB x 0 99 && hereP T x)
        · rw [hp] at haw
          have HS : Hid (hereL T (j + 1) = hereL T j) := Lib.hid (hereL_no hlt X.out hp)
          go_wp2
          go_roundw
          case rel => exact ⟨j + 1, _, by omega, by go_num, rfl, by omega, by rw [HS.out]; exact R5, S5⟩
          case measure => simp [intOf]; omega
        · rw [hp] at haw
          have HS : Hid (hereL T (j + 1) = hereL T j ++ [x]) := Lib.hid (hereL_yes hlt X.out hp)
          have hown := R5.out
          go_wp2_with (at_builtin; refine wpList_append_own _ rfl _ _ 22 rfl w1.heap.size 3 i0 (.int .i64 0) 1 8 Try.underlying22 HI.out HZ0.out HZ1.out HZ2.out rfl (by decide) _ _ _ rfl (hown.alloc _) ⟨w5.heap.size, 0, none⟩ 1 1 [.int .i64 x] rfl rfl (cell_one_new _ _ _) (by simp [Value.oneCell']) (by unfold maxLen; omega) (by omega) (by simp; omega) ?_)
          intro v' w6 hown6 hgrow6 _
          have z6 : w5.heap.size + 1 ≤ w6.heap.size := by have := hgrow6.size; simpa using this
          have S6 := (S5.below ((Below.refl _ _).alloc (Nat.le_refl _) (.cells #[.int .i64 x] 3))).grown2 hgrow6 (fun k e => ⟨by have := (hown.lt k e).1; omega, fun i hi => .inr (by
            have := (hown.lt k e).1
            simp only [List.mem_cons, List.not_mem_nil, or_false] at hi
            rcases hi with rfl | rfl <;> simp [It.box, It.read] <;> omega)⟩)
          have R6 : Hid (w6.ownsRow w1.heap.size 3 1 v' (hereL T (j + 1)).length ((hereL T (j + 1)).map (Value.int .i64))) := Lib.hid (by
            rw [HS.out, List.length_append, List.map_append]; exact hown6)
          clear hown6 hgrow6 hown S5 R5
          go_wp2
          go_roundw
          case rel => exact ⟨j + 1, _, by omega, by go_num, rfl, by omega, R6, S6⟩
          case measure => simp [intOf]; omega
      · obtain rfl : j = T.zs.length := by omega
        obtain ⟨a5, c5, rfl⟩ := ownsRow_slice HR.out
        have hl : (hereL T T.zs.length).length = (homeKeys T).length := by rw [← HA.out]; simp
        have hkl : (hereL T T.zs.length).length ≤ 1000 := by omega
        have HL := Lib.hid hl
        clear hl
        go_wp2_with fail
        refine (sortRow_any w1.heap.size a5 _ c5 _ _ HR.out hkl).mono ?_
        rw [HA.out]
        rintro e w6 ⟨rfl, hr6, hg6⟩
        have S6 := Sr.grown2 hg6 (fun k e => ⟨by have := (HR.out.lt k e).1; omega, fun i hi => .inr (by
          have := (HR.out.lt k e).1
          simp only [List.mem_cons, List.not_mem_nil, or_false] at hi
          rcases hi with rfl | rfl <;> simp [It.box, It.read] <;> omega)⟩)
        have R6 := Lib.hid hr6
        clear hr6 hg6
        go_wp2
        go_ret2
        refine ⟨a5, c5, by rw [← HL.out]; rfl, ?_, S6.old⟩
        have := R6.out
        rw [HL.out] at this
        exact ownsRow_ints (ownsRow_weaken this (by omega))

end Go.Proofs.Ytpbffdjiijpigaa

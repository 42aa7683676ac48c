/-
  The law FnNeeded: the walk.
-/
import Derived.Test.YtipabndhknhkeaaGreatDoorDrawn
import Derived.Test.YtipabndhknhkeaaGreatDoorDraw4N
import Derived.Test.YtipabndhknhkeaaGreatDoorCopyRow
import Derived.Test.YtipabndhknhkeaaGreatDoorNeededI
import Derived.Test.YtipabndhknhkeaaGreatDoorMath
import Derived.Test.YtipabndhknhkeaaGreatDoorFewI
import Derived.Test.YtipabndhknhkeaaGreatDoorSame
import Derived.Test.YtipabndhknhkeaaGreatDoorOt
namespace Go.Proofs.YtipabndhknhkeaaGreatDoor
open Go.RowKit

theorem needs_has {T : Tab} (hs : soundB T = true) {i : Nat} (hi : i < T.zs.length) (ht : nth T.zs i = -2) : decide ((i : Int) ∈ needsOf T) = needOf T i := by
  rw [needsOf, if_pos hs, needLTo, Bool.eq_iff_iff, decide_eq_true_eq, List.mem_map]
  constructor
  · rintro ⟨j, hj, e⟩
    obtain rfl : j = i := by omega
    have := (List.mem_filter.1 hj).2
    rw [needB, ht] at this
    simpa using this
  · intro h
    exact ⟨i, List.mem_filter.2 ⟨List.mem_range.2 hi, by rw [needB, ht, h]; rfl⟩, rfl⟩

set_option maxHeartbeats 8000000 in
set_option maxRecDepth 100000 in
theorem walkFnNeeded (w : World) (a : Option Addr) (len cap : Nat) (zs : List Int) (h : IsRow .u8 w a len cap zs) (a' : Option Addr) (len' cap' : Nat) (zs' : List Int) (h' : IsRow .u8 w a' len' cap' zs') (hT : DeB w) :
    Calls Tryz.prog 7 #[.slice a len cap, .slice a' len' cap'] w fun e w' => e = .returned (.bool true) ∧ Below w.heap.size w w' := by
  obtain ⟨i0, hi, hz0, hz1, hz2⟩ := info_parts Tryz.info3
  have HI := Lib.hid hi; have HZ0 := Lib.hid hz0; have HZ1 := Lib.hid hz1; have HZ2 := Lib.hid hz2
  clear hi hz0 hz1 hz2
  obtain ⟨ys, rfl, hC, S0⟩ := came_of h
  obtain ⟨ys', rfl, hC', S0'⟩ := came_of h'
  have SS := S0'.add (It.bytes w.heap.size a ys) (Nat.le_refl _) (S0.get 0 rfl)
  clear h h' S0'
  by_cases hs : ys.length ≤ 1048576
  · have t1 : decide (1048576 < (ys.length : Int)) = false := by simp; omega
    by_cases hs' : ys'.length ≤ 1048576
    · have t2 : decide (1048576 < (ys'.length : Int)) = false := by simp; omega
      go_enter Tryz.func7, Tryz.ntmps7
      go_wp2_with fail
      refine (DrawNeededTombs_any (by exact SS) hC).mono ?_
      rintro e w1 ⟨T, a1, c1, lo, hi, rfl, hTD, hlo, S1⟩
      obtain ⟨n1, n2⟩ := hTD.len
      have HP := Lib.hid fun (W : World) (h1 : IntsAt W a1 T.zs) (hD : DeB W) => NeededTombs_any T a1 c1 W (by omega) h1 hD
      have HM := Lib.hid fun (W : World) (h1 : IntsAt W a1 T.zs) => specNeededTombs_any T a1 c1 W (by omega) h1
      have HNH := Lib.hid fun (h : soundB T = true) (i : Nat) (hi : i < T.zs.length) (ht : nth T.zs i = -2) => needs_has h hi ht
      have HFT := Lib.hid fun (h : soundB T = true) (i : Nat) (hi : i < T.zs.length) (ht : nth T.zs i = -2) => free_tomb h hi ht
      have hnl := needsOf_len T
      generalize needsOf T = L at HP HM HNH hnl
      have S2 := S1.alloc #[.int .i64 T.t, .int .i64 T.p, .slice a1 T.zs.length c1] 28
      clear SS S1
      go_wp2_with fail
      refine (HP.out _ (by exact S2.ints 1 rfl) (hT.below S2.old hT.1)).mono ?_
      rintro e w2 ⟨a2, c2, rfl, ho, hb⟩
      have S3 : ∃ l2 h2, St w w2 [It.own l2 h2 a2 L, It.box w1.heap.size #[.int .i64 T.t, .int .i64 T.p, .slice a1 T.zs.length c1] 28, It.own lo hi a1 T.zs, It.bytes w.heap.size a' ys'] := ⟨_, _, (S2.below hb).own ho⟩
      obtain ⟨l2, h2, S3⟩ := S3
      clear S2 ho hb
      obtain ⟨x0, x1, x2, x3, x4, x5, xz⟩ := facts3 (S3.cells 1 rfl)
      go_wp2_with fail
      clear x0 x1 x2 x3 x4 x5 xz
      refine (HM.out _ (by exact S3.ints 2 rfl)).mono ?_
      rintro e w3 ⟨a3, c3, rfl, ho, hb⟩
      have S4 : ∃ l3 h3, St w w3 [It.bytes w.heap.size a' ys', It.own l3 h3 a3 L, It.own l2 h2 a2 L, It.box w1.heap.size #[.int .i64 T.t, .int .i64 T.p, .slice a1 T.zs.length c1] 28, It.own lo hi a1 T.zs] := ⟨_, _, ((S3.below hb).own ho).turn fun i hi => by
        simp only [List.mem_cons, List.not_mem_nil, or_false] at hi ⊢
        rcases hi with h | h | h | h | h
        · exact .inr (.inr (.inr (.inr h)))
        · exact .inl h
        · exact .inr (.inl h)
        · exact .inr (.inr (.inl h))
        · exact .inr (.inr (.inr (.inl h)))⟩
      obtain ⟨l3, h3, S4⟩ := S4
      clear S3 ho hb HP HM
      go_wp2_with fail
      refine (DrawFewestTombs_any (by exact S4) hC').mono ?_
      rintro e w4 ⟨X, ax, cx, lox, hix, rfl, hXD, hlox, S5⟩
      obtain ⟨m1, m2⟩ := hXD.len
      have S6 := S5.alloc #[.int .i64 X.t, .int .i64 X.p, .slice ax X.zs.length cx] 28
      clear S4 S5
      have HF := Lib.hid fun (W : World) (h1 : IntsAt W ax X.zs) => FewestTombs_any X ax cx W (by omega) h1
      have HG := Lib.hid fun (W : World) (h1 : IntsAt W ax X.zs) => specFewestTombs_any X ax cx W (by omega) h1
      have FT := few_twice X
      have hyl := fewT_len X
      generalize fewT X = Y at HF HG FT hyl
      obtain ⟨FS, FW⟩ := FT
      have HY := fun (a : Option Addr) (c : Nat) => FewestTombs_any Y a c
      have HYS := fun (a : Option Addr) (c : Nat) => IsSound_any Y a c
      rw [FS] at HYS
      have hyl2 := fewT_len Y
      have FW := Lib.hid FW
      have HY := Lib.hid HY
      have HYS := Lib.hid HYS
      clear FS
      go_wp2_with fail
      refine (HF.out _ (by exact S6.ints 1 rfl)).mono ?_
      rintro e w5 ⟨ay, cy, rfl, ho, hb⟩
      have S7 : ∃ l5 h5, St w w5 [It.own l5 h5 ay Y.zs, It.box w4.heap.size #[.int .i64 X.t, .int .i64 X.p, .slice ax X.zs.length cx] 28, It.own lox hix ax X.zs, It.own l3 h3 a3 L, It.own l2 h2 a2 L, It.box w1.heap.size #[.int .i64 T.t, .int .i64 T.p, .slice a1 T.zs.length c1] 28, It.own lo hi a1 T.zs] := ⟨_, _, (S6.below hb).own ho⟩
      obtain ⟨l5, h5, S7⟩ := S7
      clear S6 ho hb
      obtain ⟨x0, x1, x2, x3, x4, x5, xz⟩ := facts3 (S7.cells 1 rfl)
      have S8 := S7.alloc #[.int .i64 Y.t, .int .i64 Y.p, .slice ay Y.zs.length cy] 28
      clear S7
      go_wp2_with fail
      clear x0 x1 x2 x3 x4 x5 xz
      refine (HG.out _ (by exact S8.ints 3 rfl)).mono ?_
      rintro e w6 ⟨az, cz, rfl, ho, hb⟩
      have S9 := ((S8.below hb).own ho).alloc #[.int .i64 Y.t, .int .i64 Y.p, .slice az Y.zs.length cz] 28
      clear S8 ho hb HF HG
      have HS := Lib.hid (show sameB Y Y = true by simp [sameB])
      have HO := Lib.hid fun (W : World) (h1 : IntsAt W a2 L) (h2 : IntsAt W a3 L) => otSame_same L a2 a3 c2 c3 W (by omega) h1 h2
      cases hsT : soundB T
      · go_wp2_with fail
        refine (HO.out _ (by exact S9.ints 7 rfl) (by exact S9.ints 6 rfl)).mono ?_
        rintro e w7 ⟨rfl, hb⟩
        have S10 := S9.below hb
        clear S9 hb
        obtain ⟨x0, x1, x2, x3, x4, x5, xz⟩ := facts3 (S10.cells 2 rfl)
        obtain ⟨y0, y1, y2, y3, y4, y5, yz⟩ := facts3 (S10.cells 0 rfl)
        go_wp2_with fail
        clear x0 x1 x2 x3 x4 x5 xz y0 y1 y2 y3 y4 y5 yz
        refine (SameTable_any Y Y ay az cy cz _ (by omega) (by omega) (by exact S10.ints 3 rfl) (by exact S10.ints 1 rfl)).mono ?_
        rw [HS.out]
        rintro e w8 ⟨rfl, hb⟩
        have S11 := S10.below hb
        clear S10 hb
        go_wp2_with fail
        refine (HO.out _ (by exact S11.ints 7 rfl) (by exact S11.ints 6 rfl)).mono ?_
        rintro e w9 ⟨rfl, hb⟩
        have S12 := S11.below hb
        clear S11 hb
        obtain ⟨x0, x1, x2, x3, x4, x5, xz⟩ := facts3 (S12.cells 2 rfl)
        obtain ⟨y0, y1, y2, y3, y4, y5, yz⟩ := facts3 (S12.cells 0 rfl)
        go_wp2_with fail
        clear x0 x1 x2 x3 x4 x5 xz y0 y1 y2 y3 y4 y5 yz
        refine (SameTable_any Y Y ay az cy cz _ (by omega) (by omega) (by exact S12.ints 3 rfl) (by exact S12.ints 1 rfl)).mono ?_
        rw [HS.out]
        rintro e w10 ⟨rfl, hb⟩
        have S13 := S12.below hb
        go_wp2
        go_ret
        exact ⟨rfl, S13.old⟩
      · have HNT := Lib.hid (HNH.out hsT)
        have HFT := Lib.hid (HFT.out hsT)
        clear HNH
        go_wp2_with fail
        refine (HO.out _ (by exact S9.ints 7 rfl) (by exact S9.ints 6 rfl)).mono ?_
        rintro e w7 ⟨rfl, hb⟩
        have S10 := S9.below hb
        clear S9 hb
        obtain ⟨x0, x1, x2, x3, x4, x5, xz⟩ := facts3 (S10.cells 2 rfl)
        obtain ⟨y0, y1, y2, y3, y4, y5, yz⟩ := facts3 (S10.cells 0 rfl)
        go_wp2_with fail
        clear x0 x1 x2 x3 x4 x5 xz y0 y1 y2 y3 y4 y5 yz
        refine (SameTable_any Y Y ay az cy cz _ (by omega) (by omega) (by exact S10.ints 3 rfl) (by exact S10.ints 1 rfl)).mono ?_
        rw [HS.out]
        rintro e w8 ⟨rfl, hb⟩
        have S11 := S10.below hb
        clear S10 hb HO
        obtain ⟨bT, oT, rfl, hct⟩ := (S11.ints 9 rfl) (by omega)
        clear hct
        have S12 := S11.turn (l' := [It.own l2 h2 a2 L, It.box w1.heap.size #[.int .i64 T.t, .int .i64 T.p, .slice (some ⟨bT, oT, none⟩) T.zs.length c1] 28, It.own lo hi (some ⟨bT, oT, none⟩) T.zs, It.box w5.heap.size #[.int .i64 Y.t, .int .i64 Y.p, .slice ay Y.zs.length cy] 28, It.own l5 h5 ay Y.zs]) fun i hi => by
          simp only [List.mem_cons, List.not_mem_nil, or_false] at hi ⊢
          rcases hi with h | h | h | h | h
          · exact .inr (.inr (.inr (.inr (.inr (.inr (.inr (.inl h)))))))
          · exact .inr (.inr (.inr (.inr (.inr (.inr (.inr (.inr (.inl h))))))))
          · exact .inr (.inr (.inr (.inr (.inr (.inr (.inr (.inr (.inr h))))))))
          · exact .inr (.inr (.inl h))
          · exact .inr (.inr (.inr (.inl h)))
        clear S11
        obtain ⟨x0, x1, x2, x3, x4, x5, xz⟩ := facts3 (S12.cells 1 rfl)
        go_wp2_with fail
        clear x0 x1 x2 x3 x4 x5 xz
        go_loopw [15, 16, 17, 87] (fun _ _ _ i wr => ∃ j : Nat, j ≤ T.zs.length ∧ i = .int .i64 j ∧ St w wr [It.own l2 h2 a2 L, It.box w1.heap.size #[.int .i64 T.t, .int .i64 T.p, .slice (some ⟨bT, oT, none⟩) T.zs.length c1] 28, It.own lo hi (some ⟨bT, oT, none⟩) T.zs, It.box w5.heap.size #[.int .i64 Y.t, .int .i64 Y.p, .slice ay Y.zs.length cy] 28, It.own l5 h5 ay Y.zs]) (fun _ _ _ i _ => T.zs.length - (intOf i).toNat)
        case atStart => exact ⟨0, Nat.zero_le _, rfl, S12⟩
        case round =>
          obtain ⟨j, hj, rfl, Sr⟩ := hrel
          clear S12
          obtain ⟨x0, x1, x2, x3, x4, x5, xz⟩ := facts3 (Sr.cells 1 rfl)
          by_cases hlt : j < T.zs.length
          · obtain ⟨b2, o2, x, ea, qx, X⟩ := (Sr.ints 2 rfl).at hlt
            cases ea
            have i0' : (0 : Int) ≤ (j : Int) := by omega
            have i1' : (j : Int) < (T.zs.length : Int) := by omega
            by_cases hx : x = -2
            · subst hx
              have hft := HFT.out j hlt X.out
              have hnt := HNT.out j hlt X.out
              generalize needOf T j = nd at hft hnt
              have HPU : Hid (∀ (a : Option Addr) (c : Nat) (W : World), IntsAt W a (T.zs.set j (-1)) → Calls Tryz.prog 35 #[.agg #[.int .i64 T.t, .int .i64 T.p, .slice a T.zs.length c]] W fun e w' => e = .returned (.bool (!nd)) ∧ Below W.heap.size W w') := Lib.hid (by
                intro a c W h
                have := IsSound_any (putAt T j (-1)) a c W (by simp [putAt]; omega) h
                rw [hft] at this
                simpa [tabV, putAt] using this)
              have HOH : Hid (∀ W : World, IntsAt W a2 L → Calls Tryz.prog 36 #[.slice a2 L.length c2, .int .i64 (j : Int)] W fun e w' => e = .returned (.bool nd) ∧ W = w') := Lib.hid (by
                intro W h
                have := otHas_any a2 c2 L (j : Int) W (by omega) h
                rw [hnt] at this
                exact this)
              clear hft hnt
              have z0 := Sr.size
              have z1 : h2 ≤ wr.heap.size := Sr.sz 0 rfl
              have z2 : w1.heap.size + 1 ≤ wr.heap.size := Sr.sz 1 rfl
              have z3 : hi ≤ wr.heap.size := Sr.sz 2 rfl
              have z4 : w5.heap.size + 1 ≤ wr.heap.size := Sr.sz 3 rfl
              have z5 : h5 ≤ wr.heap.size := Sr.sz 4 rfl
              go_wp2_with fail
              clear qx
              have SA := (Sr.below ((Below.refl _ _).alloc (Nat.le_refl _) (.cells #[] 3))).drew
              have SB := ((Sr.alloc #[.int .i64 0, .int .i64 0, .slice none 0 0] 28).below ((Below.refl _ _).alloc (Nat.le_refl _) (.cells #[] 3))).drew
              have SC := ((Sr.below ((Below.refl _ _).alloc (Nat.le_refl _) (.cells #[] 3))).alloc #[.int .i64 0, .int .i64 0, .slice none 0 0] 28).drew
              rw [World.size_alloc] at SC
              obtain ⟨xa0, xa1, xa2, xa3, xa4, xa5, xaz⟩ := facts3 ((Sr.below ((Below.refl _ _).alloc (Nat.le_refl _) (.cells #[] 3))).cells 1 rfl)
              obtain ⟨xb0, xb1, xb2, xb3, xb4, xb5, xbz⟩ := facts3 ((Sr.alloc #[.int .i64 0, .int .i64 0, .slice none 0 0] 28).cells 2 rfl)
              obtain ⟨xc0, xc1, xc2, xc3, xc4, xc5, xcz⟩ := facts3 (((Sr.alloc #[.int .i64 0, .int .i64 0, .slice none 0 0] 28).below ((Below.refl _ _).alloc (Nat.le_refl _) (.cells #[] 3))).cells 2 rfl)
              obtain ⟨xd0, xd1, xd2, xd3, xd4, xd5, xdz⟩ := facts3 (((Sr.below ((Below.refl _ _).alloc (Nat.le_refl _) (.cells #[] 3))).alloc #[.int .i64 0, .int .i64 0, .slice none 0 0] 28).cells 2 rfl)
              have oA := (row_start wr).drew
              have oB := row_start (wr.alloc (.cells #[.int .i64 0, .int .i64 0, .slice none 0 0] 28))
              rw [World.size_alloc] at oB
              have oB := oB.drew
              have oC := ((row_start wr).alloc (.cells #[.int .i64 0, .int .i64 0, .slice none 0 0] 28)).drew
              go_region_held3 (fun w' => w'.cell? ⟨w1.heap.size, 0, none⟩ = some (.int .i64 T.t) ∧ w'.cell? ⟨w1.heap.size, 1, none⟩ = some (.int .i64 T.p) ∧ w'.cell? ⟨w1.heap.size, 2, none⟩ = some (.slice (some ⟨bT, oT, none⟩) T.zs.length c1))
                (first
                  | exact ⟨x0, x1, x2⟩
                  | exact ⟨xa0, xa1, xa2⟩
                  | exact ⟨xb0, xb1, xb2⟩
                  | exact ⟨xc0, xc1, xc2⟩
                  | exact ⟨xd0, xd1, xd2⟩
                  | exact V.three 2 rfl
                  | exact V.three 3 rfl
                  | exact F9.three 3 rfl
                  | go_keep)
                (first
                  | (refine step_append_lies _ (by rfl) _ _ _ (by rfl) wr.heap.size 3 i0 _ 1 8 Tryz.underlying22 HI.out HZ0.out HZ1.out HZ2.out rfl (by omega) _ _ _ (by rfl) oA ⟨bT, oT, none⟩ T.zs.length c1 (T.zs.map (Value.int .i64)) (by rfl) (by simp) (SA.news 2 rfl (Below.refl _ _)) (by intro u hu; obtain ⟨x, _, rfl⟩ := List.mem_map.1 hu; rfl) (by omega) (by unfold maxLen; omega) (by omega) (by simp <;> omega) _ rfl ?_; intro gg cap w4 hown4 hgrow4 hat4 hlt4; have hgb := (hown4.lt gg rfl).1; have V := SA.copyRow (E := wr.heap.size) (by omega) (by simp only [List.mem_cons, List.not_mem_nil, or_false]; rintro i (rfl | rfl | rfl | rfl | rfl) <;> simp [It.box, It.own] <;> omega) hgrow4 hown4 hlt4; obtain ⟨x0, x1, x2, x3, x4, x5, xz⟩ := facts3 (V.cells 2 rfl); have F9 := V.alloc #[.int .i64 T.t, .int .i64 T.p, .slice (some ⟨gg, 0, none⟩) T.zs.length cap] 28)
                  | (refine step_append_lies _ (by rfl) _ _ _ (by rfl) (wr.heap.size + 1) 3 i0 _ 1 8 Tryz.underlying22 HI.out HZ0.out HZ1.out HZ2.out rfl (by omega) _ _ _ (by rfl) oB ⟨bT, oT, none⟩ T.zs.length c1 (T.zs.map (Value.int .i64)) (by rfl) (by simp) (SB.news 3 rfl (Below.refl _ _)) (by intro u hu; obtain ⟨x, _, rfl⟩ := List.mem_map.1 hu; rfl) (by omega) (by unfold maxLen; omega) (by omega) (by simp <;> omega) _ rfl ?_; intro gg cap w4 hown4 hgrow4 hat4 hlt4; have hgb := (hown4.lt gg rfl).1; have V := SB.copyRow (E := wr.heap.size + 1) (by omega) (by simp only [List.mem_cons, List.not_mem_nil, or_false]; rintro i (rfl | rfl | rfl | rfl | rfl | rfl) <;> simp [It.box, It.own] <;> omega) hgrow4 hown4 hlt4; obtain ⟨x0, x1, x2, x3, x4, x5, xz⟩ := facts3 (V.cells 3 rfl); obtain ⟨u0, u1, u2, u3, u4, u5, uz⟩ := facts3 (V.cells 1 rfl); have F9 := V.set3Box 1 rfl (by simp [Far, It.box, It.own]; omega) (by omega) (.int .i64 T.t) (.int .i64 T.p) (.slice (some ⟨gg, 0, none⟩) T.zs.length cap))
                  | (refine step_append_lies _ (by rfl) _ _ _ (by rfl) wr.heap.size 3 i0 _ 1 8 Tryz.underlying22 HI.out HZ0.out HZ1.out HZ2.out rfl (by omega) _ _ _ (by rfl) oC ⟨bT, oT, none⟩ T.zs.length c1 (T.zs.map (Value.int .i64)) (by rfl) (by simp) (SC.news 3 rfl (Below.refl _ _)) (by intro u hu; obtain ⟨x, _, rfl⟩ := List.mem_map.1 hu; rfl) (by omega) (by unfold maxLen; omega) (by omega) (by simp <;> omega) _ rfl ?_; intro gg cap w4 hown4 hgrow4 hat4 hlt4; have hgc := (hown4.lt gg rfl).1; have hgb : gg ≠ wr.heap.size + 1 := (by rcases hat4 with h | h <;> simp [Value.ownBlock] at h <;> omega); have V := SC.copyRow (E := wr.heap.size) (by omega) (by simp only [List.mem_cons, List.not_mem_nil, or_false]; rintro i (rfl | rfl | rfl | rfl | rfl | rfl) <;> simp [It.box, It.own] <;> omega) hgrow4 hown4 hlt4; obtain ⟨x0, x1, x2, x3, x4, x5, xz⟩ := facts3 (V.cells 3 rfl); obtain ⟨u0, u1, u2, u3, u4, u5, uz⟩ := facts3 (V.cells 1 rfl); have F9 := V.set3Box 1 rfl (by simp [Far, It.box, It.own]; omega) (by omega) (.int .i64 T.t) (.int .i64 T.p) (.slice (some ⟨gg, 0, none⟩) T.zs.length cap)))
              all_goals clear xa0 xa1 xa2 xa3 xa4 xa5 xaz xb0 xb1 xb2 xb3 xb4 xb5 xbz xc0 xc1 xc2 xc3 xc4 xc5 xcz xd0 xd1 xd2 xd3 xd4 xd5 xdz SA SB SC oA oB oC hown4 hgrow4
              all_goals have hgz := hlt4
              · obtain ⟨u0, u1, u2, u3, u4, u5, uz⟩ := facts3 (F9.cells 0 rfl)
                obtain ⟨g0, g1⟩ := own_at (F9.owns 1 rfl) hlt
                rw [Nat.zero_add] at g0 g1
                have F10 := (V.storeRow 0 j hlt rfl (by simp [Far, It.box, It.own]; omega) (by omega) (-1)).alloc #[.int .i64 T.t, .int .i64 T.p, .slice (some ⟨gg, 0, none⟩) T.zs.length cap] 28
                clear F9 V x0 x1 x2 x3 x4 x5 xz
                go_wp2_with fail
                clear u0 u1 u2 u3 u4 u5 uz g0 g1
                refine (HPU.out _ _ _ (by exact F10.ints 1 rfl)).mono ?_
                rintro e w9 ⟨rfl, hb⟩
                have F11 := F10.below hb
                clear F10 hb
                go_wp2_with fail
                refine (HOH.out _ (by exact F11.ints 2 rfl)).mono ?_
                rintro e w10 ⟨rfl, rfl⟩
                have F12 := F11.turn (l' := [It.own l2 h2 a2 L, It.box w1.heap.size #[.int .i64 T.t, .int .i64 T.p, .slice (some ⟨bT, oT, none⟩) T.zs.length c1] 28, It.own lo hi (some ⟨bT, oT, none⟩) T.zs, It.box w5.heap.size #[.int .i64 Y.t, .int .i64 Y.p, .slice ay Y.zs.length cy] 28, It.own l5 h5 ay Y.zs]) fun i hi => by
                  simp only [List.mem_cons, List.not_mem_nil, or_false, List.set] at hi ⊢
                  rcases hi with h | h | h | h | h
                  · exact .inr (.inr (.inl h))
                  · exact .inr (.inr (.inr (.inl h)))
                  · exact .inr (.inr (.inr (.inr (.inl h))))
                  · exact .inr (.inr (.inr (.inr (.inr (.inl h)))))
                  · exact .inr (.inr (.inr (.inr (.inr (.inr h)))))
                clear F11
                cases nd
                · go_wp2
                  go_roundw
                  case rel => exact ⟨j + 1, by omega, by go_num, F12⟩
                  case measure => simp [intOf]; omega
                · go_wp2
                  go_roundw
                  case rel => exact ⟨j + 1, by omega, by go_num, F12⟩
                  case measure => simp [intOf]; omega
              · obtain ⟨u0, u1, u2, u3, u4, u5, uz⟩ := facts3 (F9.cells 1 rfl)
                obtain ⟨g0, g1⟩ := own_at (F9.owns 0 rfl) hlt
                rw [Nat.zero_add] at g0 g1
                have F10 := F9.storeRow 0 j hlt rfl (by simp [Far, It.box, It.own]; omega) (by omega) (-1)
                clear F9 V x0 x1 x2 x3 x4 x5 xz
                go_wp2_with fail
                clear u0 u1 u2 u3 u4 u5 uz g0 g1
                refine (HPU.out _ _ _ (by exact F10.ints 0 rfl)).mono ?_
                rintro e w9 ⟨rfl, hb⟩
                have F11 := F10.below hb
                clear F10 hb
                go_wp2_with fail
                refine (HOH.out _ (by exact F11.ints 2 rfl)).mono ?_
                rintro e w10 ⟨rfl, rfl⟩
                have F12 := F11.turn (l' := [It.own l2 h2 a2 L, It.box w1.heap.size #[.int .i64 T.t, .int .i64 T.p, .slice (some ⟨bT, oT, none⟩) T.zs.length c1] 28, It.own lo hi (some ⟨bT, oT, none⟩) T.zs, It.box w5.heap.size #[.int .i64 Y.t, .int .i64 Y.p, .slice ay Y.zs.length cy] 28, It.own l5 h5 ay Y.zs]) fun i hi => by
                  simp only [List.mem_cons, List.not_mem_nil, or_false, List.set] at hi ⊢
                  rcases hi with h | h | h | h | h
                  · exact .inr (.inr (.inl h))
                  · exact .inr (.inr (.inr (.inl h)))
                  · exact .inr (.inr (.inr (.inr (.inl h))))
                  · exact .inr (.inr (.inr (.inr (.inr (.inl h)))))
                  · exact .inr (.inr (.inr (.inr (.inr (.inr h)))))
                clear F11
                cases nd
                · go_wp2
                  go_roundw
                  case rel => exact ⟨j + 1, by omega, by go_num, F12⟩
                  case measure => simp [intOf]; omega
                · go_wp2
                  go_roundw
                  case rel => exact ⟨j + 1, by omega, by go_num, F12⟩
                  case measure => simp [intOf]; omega
              · obtain ⟨u0, u1, u2, u3, u4, u5, uz⟩ := facts3 (F9.cells 1 rfl)
                obtain ⟨g0, g1⟩ := own_at (F9.owns 0 rfl) hlt
                rw [Nat.zero_add] at g0 g1
                have F10 := F9.storeRow 0 j hlt rfl (by simp [Far, It.box, It.own]; omega) (by omega) (-1)
                clear F9 V x0 x1 x2 x3 x4 x5 xz
                go_wp2_with fail
                clear u0 u1 u2 u3 u4 u5 uz g0 g1
                refine (HPU.out _ _ _ (by exact F10.ints 0 rfl)).mono ?_
                rintro e w9 ⟨rfl, hb⟩
                have F11 := F10.below hb
                clear F10 hb
                go_wp2_with fail
                refine (HOH.out _ (by exact F11.ints 2 rfl)).mono ?_
                rintro e w10 ⟨rfl, rfl⟩
                have F12 := F11.turn (l' := [It.own l2 h2 a2 L, It.box w1.heap.size #[.int .i64 T.t, .int .i64 T.p, .slice (some ⟨bT, oT, none⟩) T.zs.length c1] 28, It.own lo hi (some ⟨bT, oT, none⟩) T.zs, It.box w5.heap.size #[.int .i64 Y.t, .int .i64 Y.p, .slice ay Y.zs.length cy] 28, It.own l5 h5 ay Y.zs]) fun i hi => by
                  simp only [List.mem_cons, List.not_mem_nil, or_false, List.set] at hi ⊢
                  rcases hi with h | h | h | h | h
                  · exact .inr (.inr (.inl h))
                  · exact .inr (.inr (.inr (.inl h)))
                  · exact .inr (.inr (.inr (.inr (.inl h))))
                  · exact .inr (.inr (.inr (.inr (.inr (.inl h)))))
                  · exact .inr (.inr (.inr (.inr (.inr (.inr h)))))
                clear F11
                cases nd
                · go_wp2
                  go_roundw
                  case rel => exact ⟨j + 1, by omega, by go_num, F12⟩
                  case measure => simp [intOf]; omega
                · go_wp2
                  go_roundw
                  case rel => exact ⟨j + 1, by omega, by go_num, F12⟩
                  case measure => simp [intOf]; omega
            · have dx : (x != -2) = true := by simpa using hx
              go_wp2
              go_roundw
              case rel => exact ⟨j + 1, by omega, by go_num, Sr⟩
              case measure => simp [intOf]; omega
          · obtain rfl : j = T.zs.length := by omega
            clear x0 x1 x2 x3 x4 x5 xz HFT HNT
            obtain ⟨x0, x1, x2, x3, x4, x5, xz⟩ := facts3 (Sr.cells 3 rfl)
            go_wp2_with fail
            clear x0 x1 x2 x3 x4 x5 xz
            refine (HY.out ay cy _ (by omega) (by exact Sr.ints 4 rfl)).mono ?_
            rintro e w9 ⟨a9, c9, rfl, ho, hb⟩
            cases hsX : soundB X
            · have S14 := Sr.below hb
              go_wp2
              go_ret
              exact ⟨rfl, (S14.alloc _ _).old⟩
            · have hw := FW.out hsX
              rw [hw] at ho
              rw [hw]
              rw [hsX] at HYS
              have S14 := ((Sr.below hb).own ho).alloc #[.int .i64 Y.t, .int .i64 Y.p, .slice a9 Y.zs.length c9] 28
              clear Sr ho hb
              obtain ⟨x0, x1, x2, x3, x4, x5, xz⟩ := facts3 (S14.cells 5 rfl)
              go_wp2_with fail
              clear x0 x1 x2 x3 x4 x5 xz
              refine (HYS.out ay cy _ (by omega) (by exact S14.ints 6 rfl)).mono ?_
              rintro e w10 ⟨rfl, hb⟩
              have S15 := S14.below hb
              clear S14 hb
              obtain ⟨x0, x1, x2, x3, x4, x5, xz⟩ := facts3 (S15.cells 5 rfl)
              obtain ⟨y0, y1, y2, y3, y4, y5, yz⟩ := facts3 (S15.cells 0 rfl)
              go_wp2_with fail
              clear x0 x1 x2 x3 x4 x5 xz y0 y1 y2 y3 y4 y5 yz
              refine (SameTable_any Y Y a9 ay c9 cy _ (by omega) (by omega) (by exact S15.ints 1 rfl) (by exact S15.ints 6 rfl)).mono ?_
              rw [HS.out]
              rintro e w11 ⟨rfl, hb⟩
              have S16 := S15.below hb
              go_wp2
              go_ret
              exact ⟨rfl, S16.old⟩
    · have t2 : decide (1048576 < (ys'.length : Int)) = true := by simp; omega
      go_enter Tryz.func7, Tryz.ntmps7
      go_wp2_with fail
      go_ret
      exact ⟨rfl, SS.old⟩
  · have t1 : decide (1048576 < (ys.length : Int)) = true := by simp; omega
    go_enter Tryz.func7, Tryz.ntmps7
    go_wp2_with fail
    go_ret
    exact ⟨rfl, S0.old⟩

end Go.Proofs.YtipabndhknhkeaaGreatDoor

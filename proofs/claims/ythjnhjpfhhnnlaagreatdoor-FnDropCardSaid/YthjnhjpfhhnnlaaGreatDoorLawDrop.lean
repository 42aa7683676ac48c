/-
  The law FnDrop: the walk.
-/
import Derived.Test.YthjnhjpfhhnnlaaGreatDoorCame
import Derived.Test.YthjnhjpfhhnnlaaGreatDoorDraw3P
import Derived.Test.YthjnhjpfhhnnlaaGreatDoorSame
import Derived.Test.YthjnhjpfhhnnlaaGreatDoorFindI
import Derived.Test.YthjnhjpfhhnnlaaGreatDoorLostI
import Derived.Test.YthjnhjpfhhnnlaaGreatDoorPut
import Derived.Test.YthjnhjpfhhnnlaaGreatDoorLoad
import Derived.Test.YthjnhjpfhhnnlaaGreatDoorDropI
import Derived.Test.YthjnhjpfhhnnlaaGreatDoorMath
namespace Go.Proofs.YthjnhjpfhhnnlaaGreatDoor
open Go.RowKit

theorem sameB_id (U : Tab) : sameB U U = true := by simp [sameB]
theorem keysOf_mem {T : Tab} (hv : validB T = true) {y : Int} (h : y ∈ keysOf T) : (0 ≤ y ∧ y ≤ 99) ∧ ∃ i, i < T.zs.length ∧ nth T.zs i = y := by
  rw [keysOf, if_pos hv] at h
  obtain ⟨h1, h2⟩ := sortU_mem.1 h
  exact ⟨h1, mem_nth h2⟩

theorem keysOf_len (T : Tab) : (keysOf T).length ≤ 100 := by
  unfold keysOf
  split
  · exact sortTo_len T.zs 100
  · simp

set_option maxHeartbeats 4000000 in
theorem DrawDropKey_any {w0 w : World} {l : List It} {a : Option Addr} {c bh : Nat} {code : List Int} (S : St w0 w (It.bytes bh a code :: l)) (h : Came c code) :
    Calls Tryz.prog 24 #[.slice a code.length c] w fun e w' => ∃ (T : Tab) (a' : Option Addr) (c' lo hi : Nat) (x : Int), e = .returned (.tuple #[tabV T a' c', .int .i64 x]) ∧ DrawnB T ∧ (-1 ≤ x ∧ x ≤ 100) ∧ w.heap.size ≤ lo ∧
      St w0 w' (It.own lo hi a' T.zs :: l) := by
  have hz := S.size
  have Sl : St w0 w l := S.turn fun i hi => List.mem_cons_of_mem _ hi
  have FL : Hid (Far (It.box w.heap.size #[] 0) l) := Lib.hid (Far.older Sl (fun _ h => h) (Nat.le_refl _))
  have S0 := (S.alloc #[.int .i64 0, .int .i64 0, .slice none 0 0] 25).turn (l' := It.bytes bh a code :: It.box w.heap.size #[.int .i64 0, .int .i64 0, .slice none 0 0] 25 :: l) fun i hi => by
    simp only [List.mem_cons] at hi ⊢
    rcases hi with h | h | h
    · exact .inr (.inl h)
    · exact .inl h
    · exact .inr (.inr h)
  have C := Came.open S0 h
  have zA := w.size_alloc (.cells #[.int .i64 0, .int .i64 0, .slice none 0 0] 25)
  generalize code.length = n at C ⊢
  generalize code.take 2000 = cd at C
  go_enter Tryz.func24, Tryz.ntmps24
  go_wp2_with fail
  refine C.mono ?_
  rintro e w1 ⟨r, rfl, hr, ok, F, S1⟩
  have hr1 : r + 1 ≤ w1.heap.size := S1.sz 0 rfl
  go_wp2_with fail
  refine (l2Draw_any S1 ok (by omega) F (by omega)).mono ?_
  rintro e w2 ⟨T, a', c', lo, hi2, x, rfl, hT, hx, hlo, S2⟩
  obtain ⟨x0, x1, x2, x3, x4, x5, xz⟩ := facts3 (S2.cells 1 rfl)
  go_wp2
  refine bodyPost_ret (v := .tuple #[tabV T a' c', .int .i64 x]) (by simp [results, Tryz.results24, go_sem, x0, x1, x2]) rfl ?_
  have S3 : St w0 w2 (It.own lo hi2 a' T.zs :: l) := S2.turn fun i hi => by
    simp only [List.mem_cons] at hi ⊢
    rcases hi with h | h
    · exact .inl h
    · exact .inr (.inr h)
  exact ⟨T, a', c', lo, _, x, rfl, hT, hx, by omega, S3.set3Far ⟨.inr (by show w.heap.size + 1 ≤ lo; omega), FL.out⟩ hz _ _ _⟩

set_option maxHeartbeats 4000000 in
set_option maxRecDepth 100000 in
theorem walkFnDrop (w : World) (a : Option Addr) (len cap : Nat) (zs : List Int) (h : IsRow .u8 w a len cap zs) (hL : Laid w) :
    Calls Tryz.prog 5 #[.slice a len cap] w fun e w' => e = .returned (.bool true) ∧ Below w.heap.size w w' := by
  obtain ⟨ys, rfl, hC, S0⟩ := came_of h
  clear h
  by_cases hs : ys.length ≤ 1048576
  · have t1 : decide (1048576 < (ys.length : Int)) = false := by simp; omega
    go_enter Tryz.func5, Tryz.ntmps5
    go_wp2_with fail
    refine (DrawDropKey_any (by exact S0) hC).mono ?_
    rintro e w1 ⟨T, a1, c1, lo, hi, key, rfl, hT, ⟨k1, k2⟩, hlo, S1⟩
    obtain ⟨n1, n2⟩ := hT.len
    have hul := dropT_len T key
    have HU := Lib.hid fun (W : World) (h : IntsAt W a1 T.zs) (hl : Laid W) => DropKey_any T a1 c1 key W (by omega) h hl
    have HW := Lib.hid fun (W : World) (h : IntsAt W a1 T.zs) => specDropKey_any T a1 c1 key W (by omega) h
    have hdf := fun (h : dropOk T key = true) => drop_facts h
    have hdn := fun (h : dropOk T key = false) => dropT_no h
    generalize dropT T key = U at hul HU HW hdf hdn
    have S2 := S1.alloc #[.int .i64 T.t, .int .i64 T.p, .slice a1 T.zs.length c1] 25
    go_wp2_with fail
    refine (HU.out _ (by exact S2.ints 1 rfl) (hL.below S2.old hL.pos)).mono ?_
    rintro e w2 ⟨a2, c2, rfl, ho, hb⟩
    have S3 : ∃ l2 h2, St w w2 [It.own l2 h2 a2 U.zs, It.box w1.heap.size #[.int .i64 T.t, .int .i64 T.p, .slice a1 T.zs.length c1] 25, It.own lo hi a1 T.zs] := ⟨_, _, (S2.below hb).own ho⟩
    obtain ⟨l2, h2, S3⟩ := S3
    clear S1 S2 ho hb
    obtain ⟨x0, x1, x2, x3, x4, x5, xz⟩ := facts3 (S3.cells 1 rfl)
    have S4 := S3.alloc #[.int .i64 U.t, .int .i64 U.p, .slice a2 U.zs.length c2] 25
    clear S3
    go_wp2_with fail
    clear x0 x1 x2 x3 x4 x5 xz
    refine (HW.out _ (by exact S4.ints 3 rfl)).mono ?_
    rintro e w3 ⟨a3, c3, rfl, ho, hb⟩
    have S5 : ∃ l3 h3, St w w3 [It.own l3 h3 a3 U.zs, It.box w2.heap.size #[.int .i64 U.t, .int .i64 U.p, .slice a2 U.zs.length c2] 25, It.own l2 h2 a2 U.zs, It.box w1.heap.size #[.int .i64 T.t, .int .i64 T.p, .slice a1 T.zs.length c1] 25, It.own lo hi a1 T.zs] := ⟨_, _, (S4.below hb).own ho⟩
    obtain ⟨l3, h3, S5⟩ := S5
    clear S4 ho hb
    have S6 := S5.alloc #[.int .i64 U.t, .int .i64 U.p, .slice a3 U.zs.length c3] 25
    clear S5
    obtain ⟨x0, x1, x2, x3, x4, x5, xz⟩ := facts3 (S6.cells 2 rfl)
    obtain ⟨z0, z1, z2, z3, z4, z5, zz⟩ := facts3 (S6.cells 0 rfl)
    have HS := Lib.hid (sameB_id U)
    cases ok : dropOk T key
    · have HZ : Hid (U.zs.length = 0) := Lib.hid (by rw [hdn ok]; rfl)
      clear hdf hdn
      go_wp2_with fail
      clear x0 x1 x2 x3 x4 x5 xz z0 z1 z2 z3 z4 z5 zz
      refine (SameTable_any U U a2 a3 c2 c3 _ (by omega) (by omega) (by exact S6.ints 3 rfl) (by exact S6.ints 1 rfl)).mono ?_
      rw [HS.out]
      rintro e w4 ⟨rfl, hb⟩
      have S7 := S6.below hb
      clear S6 hb
      obtain ⟨x0, x1, x2, x3, x4, x5, xz⟩ := facts3 (S7.cells 2 rfl)
      obtain ⟨z0, z1, z2, z3, z4, z5, zz⟩ := facts3 (S7.cells 0 rfl)
      go_wp2_with fail
      clear x0 x1 x2 x3 x4 x5 xz z0 z1 z2 z3 z4 z5 zz
      refine (SameTable_any U U a2 a3 c2 c3 _ (by omega) (by omega) (by exact S7.ints 3 rfl) (by exact S7.ints 1 rfl)).mono ?_
      rw [HS.out]
      rintro e w5 ⟨rfl, hb⟩
      have S8 := S7.below hb
      clear S7 hb
      obtain ⟨x0, x1, x2, x3, x4, x5, xz⟩ := facts3 (S8.cells 2 rfl)
      have lz : ((U.zs.length : Int) == 0) = true := by rw [HZ.out]; rfl
      go_wp2
      go_ret
      exact ⟨rfl, S8.old⟩
    · have D := hdf ok
      clear hdf hdn
      go_wp2_with fail
      clear x0 x1 x2 x3 x4 x5 xz z0 z1 z2 z3 z4 z5 zz
      refine (SameTable_any U U a2 a3 c2 c3 _ (by omega) (by omega) (by exact S6.ints 3 rfl) (by exact S6.ints 1 rfl)).mono ?_
      rw [HS.out]
      rintro e w4 ⟨rfl, hb⟩
      have S7 := (S6.below hb).turn (l' := [It.box w2.heap.size #[.int .i64 U.t, .int .i64 U.p, .slice a2 U.zs.length c2] 25, It.own l2 h2 a2 U.zs, It.box w1.heap.size #[.int .i64 T.t, .int .i64 T.p, .slice a1 T.zs.length c1] 25, It.own lo hi a1 T.zs]) fun i hi => by
        simp only [List.mem_cons] at hi ⊢
        rcases hi with h | h | h | h | h
        · exact .inr (.inr (.inl h))
        · exact .inr (.inr (.inr (.inl h)))
        · exact .inr (.inr (.inr (.inr (.inl h))))
        · exact .inr (.inr (.inr (.inr (.inr (.inl h)))))
        · cases h
      clear S6 hb
      have hkv := D.val
      have hkm := Lib.hid fun y (h : y ∈ keysOf T) => keysOf_mem D.val h
      have HK := KeysIn_any T a1 c1
      rw [D.val] at HK
      have hkl := keysOf_len T
      generalize keysOf T = K at hkm HK hkl
      have HG := D.gone
      have HM := Lib.hid D.same
      have HFT := Lib.hid fun y W h hl => FindKey_any T a1 c1 y W (by omega) h hl
      have HFU := Lib.hid fun y W h hl => FindKey_any U a2 c2 y W (by omega) h hl
      have HFG := FindKey_any U a2 c2 key
      rw [HG] at HFG
      have HPU := PutKey_any U a2 c2 key
      have hvl := putT_len U key
      have HSU := IsSound_any U a2 c2
      have HLT := LoadOf_any T a1 c1
      have HLU := LoadOf_any U a2 c2
      have hs2 := D.snd2
      rw [D.put] at HPU
      rw [D.snd] at HSU
      rw [D.load] at HLU
      generalize putT U key = V at HPU hvl hs2
      generalize loadOf T = ld at HLT HLU
      have HFG := Lib.hid HFG; have HPU := Lib.hid HPU; have HSU := Lib.hid HSU; have HLT := Lib.hid HLT; have HLU := Lib.hid HLU; have HS2 := Lib.hid hs2
      clear hs2 HG D
      obtain ⟨x0, x1, x2, x3, x4, x5, xz⟩ := facts3 (S7.cells 2 rfl)
      go_wp2_with fail
      clear x0 x1 x2 x3 x4 x5 xz
      refine (HK _ (by omega) (by exact S7.ints 3 rfl)).mono ?_
      rintro e w5 ⟨ak, ck, rfl, ho, hb⟩
      have S8 : ∃ lk hk, St w w5 [It.own lk hk ak K, It.box w2.heap.size #[.int .i64 U.t, .int .i64 U.p, .slice a2 U.zs.length c2] 25, It.own l2 h2 a2 U.zs, It.box w1.heap.size #[.int .i64 T.t, .int .i64 T.p, .slice a1 T.zs.length c1] 25, It.own lo hi a1 T.zs] := ⟨_, _, (S7.below hb).own ho⟩
      obtain ⟨lk, hk, S8⟩ := S8
      clear S7 hb ho HK
      go_wp2_with fail
      go_loopw [12, 13, 14, 15, 16, 73] (fun _ _ _ _ _ i wr => ∃ m : Nat, m ≤ K.length ∧ i = .int .i64 m ∧ St w wr [It.own lk hk ak K, It.box w2.heap.size #[.int .i64 U.t, .int .i64 U.p, .slice a2 U.zs.length c2] 25, It.own l2 h2 a2 U.zs, It.box w1.heap.size #[.int .i64 T.t, .int .i64 T.p, .slice a1 T.zs.length c1] 25, It.own lo hi a1 T.zs]) (fun _ _ _ _ _ i _ => K.length - (intOf i).toNat)
      case atStart => exact ⟨0, Nat.zero_le _, rfl, S8⟩
      case round =>
        obtain ⟨m, hm, rfl, Sr⟩ := hrel
        clear S8
        obtain ⟨x0, x1, x2, x3, x4, x5, xz⟩ := facts3 (Sr.cells 3 rfl)
        by_cases hlt : m < K.length
        · have j0 : (0 : Int) ≤ (m : Int) := by omega
          have j1 : (m : Int) < (K.length : Int) := by omega
          obtain ⟨b, o, y, rfl, q, Y⟩ := (Sr.ints 0 rfl).at hlt
          have hy := hkm.out y (by rw [← Y.out]; exact nth_mem hlt)
          go_wp2_with fail
          clear x0 x1 x2 x3 x4 x5 xz
          refine (HFT.out y _ (by exact Sr.ints 4 rfl) (hL.below Sr.old hL.pos)).mono ?_
          by_cases hyk : y = key
          · subst hyk
            rintro e w6 ⟨rfl, hb⟩
            have S9 := Sr.below hb
            clear Sr hb q
            generalize findOf T y = v
            obtain ⟨x0, x1, x2, x3, x4, x5, xz⟩ := facts3 (S9.cells 1 rfl)
            go_wp2_with fail
            clear x0 x1 x2 x3 x4 x5 xz
            refine (HFG.out _ (by omega) (by exact S9.ints 2 rfl) (hL.below S9.old hL.pos)).mono ?_
            rintro e w7 ⟨rfl, hb⟩
            have S10 := S9.below hb
            clear S9 hb
            go_wp2
            go_roundw
            case rel => exact ⟨m + 1, by omega, by go_num, S10⟩
            case measure => simp [intOf]; omega
          · obtain ⟨g0, g1⟩ := HM.out y hyk hy.1.1 hy.1.2 hy.2
            rw [g1]
            rintro e w6 ⟨rfl, hb⟩
            have S9 := Sr.below hb
            clear Sr hb q
            obtain ⟨x0, x1, x2, x3, x4, x5, xz⟩ := facts3 (S9.cells 1 rfl)
            go_wp2_with fail
            clear x0 x1 x2 x3 x4 x5 xz
            refine (HFU.out y _ (by exact S9.ints 2 rfl) (hL.below S9.old hL.pos)).mono ?_
            generalize findOf U y = v at g0 g1
            have d0 : decide (0 ≤ v) = true := decide_eq_true g0
            rw [d0]
            rintro e w7 ⟨rfl, hb⟩
            have S10 := S9.below hb
            clear S9 hb g1
            have dy : (y != key) = true := by simpa using hyk
            go_wp2
            go_roundw
            case rel => exact ⟨m + 1, by omega, by go_num, S10⟩
            case measure => simp [intOf]; omega
        · obtain rfl : m = K.length := by omega
          clear x0 x1 x2 x3 x4 x5 xz HFT HFU HFG HM hkm
          obtain ⟨x0, x1, x2, x3, x4, x5, xz⟩ := facts3 (Sr.cells 1 rfl)
          go_wp2_with fail
          clear x0 x1 x2 x3 x4 x5 xz
          refine (HPU.out _ (by omega) (by exact Sr.ints 2 rfl)).mono ?_
          rintro e w6 ⟨a6, c6, rfl, ho, hb⟩
          have S9 := ((Sr.below hb).own ho).alloc #[.int .i64 V.t, .int .i64 V.p, .slice a6 V.zs.length c6] 25
          clear Sr ho hb
          obtain ⟨x0, x1, x2, x3, x4, x5, xz⟩ := facts3 (S9.cells 3 rfl)
          obtain ⟨y0, y1, y2, y3, y4, y5, yz⟩ := facts3 (S9.cells 5 rfl)
          obtain ⟨z0, z1, z2, z3, z4, z5, zz⟩ := facts3 (S9.cells 0 rfl)
          go_wp2_with fail
          go_region_held3 (fun w' => (w'.cell? ⟨w2.heap.size, 0, none⟩ = some (.int .i64 U.t) ∧ w'.cell? ⟨w2.heap.size, 1, none⟩ = some (.int .i64 U.p) ∧ w'.cell? ⟨w2.heap.size, 2, none⟩ = some (.slice a2 U.zs.length c2) ∧
              w'.cell? ⟨w1.heap.size, 0, none⟩ = some (.int .i64 T.t) ∧ w'.cell? ⟨w1.heap.size, 1, none⟩ = some (.int .i64 T.p) ∧ w'.cell? ⟨w1.heap.size, 2, none⟩ = some (.slice a1 T.zs.length c1)) ∧
              w'.cell? ⟨w6.heap.size, 0, none⟩ = some (.int .i64 V.t) ∧ w'.cell? ⟨w6.heap.size, 1, none⟩ = some (.int .i64 V.p) ∧ w'.cell? ⟨w6.heap.size, 2, none⟩ = some (.slice a6 V.zs.length c6))
            (first
              | exact ⟨⟨x0, x1, x2, y0, y1, y2⟩, z0, z1, z2⟩
              | exact ⟨S10.six 3 5 rfl rfl, S10.three 0 rfl⟩
              | exact ⟨S11.six 3 5 rfl rfl, S11.three 0 rfl⟩
              | exact ⟨S12.six 3 5 rfl rfl, S12.three 0 rfl⟩
              | exact ⟨S13.six 3 5 rfl rfl, S13.three 0 rfl⟩)
            (first
              | ((with_reducible refine (HSU.out _ (by omega) (by exact S9.drew.ints 4 rfl)).mono ?_); rintro e w9 ⟨rfl, hb⟩; have S10 := S9.drew.below hb; clear hb)
              | (go_at_call 15; refine (IsSound_any V a6 c6 _ (by omega) (by exact S10.ints 1 rfl)).mono ?_; rintro e w10 ⟨rfl, hb⟩; have S11 := S10.below hb; clear hb; rw [HS2.out])
              | ((with_reducible refine (HLU.out _ (by omega) (by exact S11.ints 4 rfl)).mono ?_); rintro e w11 ⟨rfl, hb⟩; have S12 := S11.below hb; clear hb)
              | ((with_reducible refine (HLT.out _ (by omega) (by exact S12.ints 6 rfl)).mono ?_); rintro e w12 ⟨rfl, hb⟩; have S13 := S12.below hb; clear hb))
          go_wp2
          go_ret
          exact ⟨rfl, S13.old⟩
  · have t1 : decide (1048576 < (ys.length : Int)) = true := by simp; omega
    go_enter Tryz.func5, Tryz.ntmps5
    go_wp2_with fail
    go_ret
    exact ⟨rfl, S0.old⟩

end Go.Proofs.YthjnhjpfhhnnlaaGreatDoor

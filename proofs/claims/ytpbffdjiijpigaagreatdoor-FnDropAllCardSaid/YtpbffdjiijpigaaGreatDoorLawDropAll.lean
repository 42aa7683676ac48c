/-
  The law FnDropAll: the walk.
-/
import Derived.Test.YtpbffdjiijpigaaGreatDoorLawDrop
import Derived.Test.YtpbffdjiijpigaaGreatDoorDraw4D
import Derived.Test.YtpbffdjiijpigaaGreatDoorDropAll
import Derived.Test.YtpbffdjiijpigaaGreatDoorDropAllM
import Derived.Test.YtpbffdjiijpigaaGreatDoorFewI
import Derived.Test.YtpbffdjiijpigaaGreatDoorCount
namespace Go.Proofs.YtpbffdjiijpigaaGreatDoor
open Go.RowKit

theorem setCell_inBox {w : World} {b : Nat} {c : Array Value} {t : TypeId} (h : w.heap[b]? = some (.cells c t (0, 0))) (o : Nat) (v : Value) : (w.setCell ⟨b, o, none⟩ v).heap[b]? = some (.cells (c.setIfInBounds o v) t (0, 0)) := by
  simp [World.setCell, Array.getElem?_modify, h]
theorem Far.anyBox {b : Nat} {c c' : Array Value} {t t' : TypeId} {l : List It} (h : Far (It.box b c t) l) : Far (It.box b c' t') l := by
  induction l with
  | nil => trivial
  | cons x l ih => exact ⟨h.1, ih h.2⟩
theorem St.put3Box {w0 w : World} {l : List It} {b : Nat} {x y z : Value} {t : TypeId} (h : St w0 w l) (n : Nat) (hn : l[n]? = some (It.box b #[x, y, z] t)) (hf : Far (It.box b #[x, y, z] t) (l.eraseIdx n)) (hlo : w0.heap.size ≤ b) (x' y' z' : Value) :
    St w0 (((w.setCell ⟨b, 0, none⟩ x').setCell ⟨b, 1, none⟩ y').setCell ⟨b, 2, none⟩ z') (l.set n (It.box b #[x', y', z'] t)) := by
  have hlt : n < l.length := (List.getElem?_eq_some_iff.1 hn).1
  have e0 : ∀ i : It, (l.set n i)[n]? = some i := fun i => by simp [hlt]
  have e1 : ∀ i : It, (l.set n i).eraseIdx n = l.eraseIdx n := fun i => by rw [List.eraseIdx_set_eq]
  have c0 := setCell_inBox (h.cells n hn) 0 x'
  have h1 := h.setBoxAt n hn 0 x' c0 hf hlo
  have c1 := setCell_inBox (h1.cells n (e0 _)) 1 y'
  have h2 := h1.setBoxAt n (e0 _) 1 y' c1 (by rw [e1]; exact hf.anyBox) hlo
  rw [List.set_set] at h2
  have c2 := setCell_inBox (h2.cells n (e0 _)) 2 z'
  have h3 := h2.setBoxAt n (e0 _) 2 z' c2 (by rw [e1]; exact hf.anyBox) hlo
  rw [List.set_set] at h3
  exact h3

theorem St.ownEx {w0 w : World} {W0 m : Nat} {l : List It} {a : Option Addr} {zs : List Int} (h : St w0 w l) (ho : OwnInts w W0 a zs) (hm : m ≤ W0) : ∃ l6, m ≤ l6 ∧ St w0 w (It.own l6 w.heap.size a zs :: l) := ⟨W0, hm, h.own ho⟩

theorem IntsAt.key {w : World} {b o k : Nat} {zs : List Int} {x : Int} (h : IntsAt w (some ⟨b, o, none⟩) zs) (hk : k < zs.length) (X : Hid (nth zs k = x)) : w.cell? ⟨b, o + k, none⟩ = some (.int .i64 x) := by
  obtain ⟨b', o', x', e, q, X'⟩ := h.at hk
  cases e
  rw [← X.out, X'.out]
  exact q

set_option maxHeartbeats 4000000 in
set_option maxRecDepth 100000 in
theorem walkFnDropAll (w : World) (a : Option Addr) (len cap : Nat) (zs : List Int) (h : IsRow .u8 w a len cap zs) (hL : Laid w) :
    Calls Tryz.prog 4 #[.slice a len cap] w fun e w' => e = .returned (.bool true) ∧ Below w.heap.size w w' := by
  obtain ⟨ys, rfl, hC, S0⟩ := came_of h
  clear h
  by_cases hs : ys.length ≤ 1048576
  · have t1 : decide (1048576 < (ys.length : Int)) = false := by simp; omega
    go_enter Tryz.func4, Tryz.ntmps4
    go_wp2_with fail
    refine (DrawDropAll_any (by exact S0) hC).mono ?_
    rintro e w1 ⟨T, a1, c1, lo, hi, ks, ak, ck, lok, hik, rfl, hT, hkl, hkb, hlo, S1⟩
    obtain ⟨n1, n2⟩ := hT.len
    clear hkb
    have hul : (dropsT T ks).zs.length ≤ 17 := by
      cases ok : dropsOk T ks
      · rw [dropsT_no ok]; simp
      · rw [dropsT_yes ok, show (dropAt T ks).zs.length = T.zs.length from dropL_len _ _]; exact n2
    have HU := Lib.hid fun (W : World) (h1 : IntsAt W a1 T.zs) (h2 : IntsAt W ak ks) => DropAll_any T a1 c1 ks ak ck W (by omega) (by omega) h1 h2
    have HW := Lib.hid fun (W : World) (h1 : IntsAt W a1 T.zs) (h2 : IntsAt W ak ks) => specDropAll_any T a1 c1 ks ak ck W (by omega) (by omega) h1 h2
    have hdf := fun (h : dropsOk T ks = true) => dropsT_yes h
    have hdn := fun (h : dropsOk T ks = false) => dropsT_no h
    generalize dropsT T ks = U at hul HU HW hdf hdn
    have S2 := S1.alloc #[.int .i64 T.t, .int .i64 T.p, .slice a1 T.zs.length c1] 25
    go_wp2_with fail
    refine (HU.out _ (by exact S2.ints 2 rfl) (by exact S2.ints 1 rfl)).mono ?_
    rintro e w2 ⟨a2, c2, rfl, ho, hb⟩
    have S3 : ∃ l2 h2, St w w2 [It.own l2 h2 a2 U.zs, It.box w1.heap.size #[.int .i64 T.t, .int .i64 T.p, .slice a1 T.zs.length c1] 25, It.own lok hik ak ks, It.own lo hi a1 T.zs] := ⟨_, _, (S2.below hb).own ho⟩
    obtain ⟨l2, h2, S3⟩ := S3
    clear S1 S2 ho hb
    obtain ⟨x0, x1, x2, x3, x4, x5, xz⟩ := facts3 (S3.cells 1 rfl)
    have S4 := S3.alloc #[.int .i64 U.t, .int .i64 U.p, .slice a2 U.zs.length c2] 25
    clear S3
    go_wp2_with fail
    clear x0 x1 x2 x3 x4 x5 xz
    refine (HW.out _ (by exact S4.ints 4 rfl) (by exact S4.ints 3 rfl)).mono ?_
    rintro e w3 ⟨a3, c3, rfl, ho, hb⟩
    have S5 : ∃ l3 h3, St w w3 [It.own l3 h3 a3 U.zs, It.box w2.heap.size #[.int .i64 U.t, .int .i64 U.p, .slice a2 U.zs.length c2] 25, It.own l2 h2 a2 U.zs, It.box w1.heap.size #[.int .i64 T.t, .int .i64 T.p, .slice a1 T.zs.length c1] 25, It.own lok hik ak ks, It.own lo hi a1 T.zs] := ⟨_, _, (S4.below hb).own ho⟩
    obtain ⟨l3, h3, S5⟩ := S5
    clear S4 ho hb
    have S6 := S5.alloc #[.int .i64 U.t, .int .i64 U.p, .slice a3 U.zs.length c3] 25
    clear S5
    obtain ⟨x0, x1, x2, x3, x4, x5, xz⟩ := facts3 (S6.cells 2 rfl)
    obtain ⟨z0, z1, z2, z3, z4, z5, zz⟩ := facts3 (S6.cells 0 rfl)
    have HS := Lib.hid (sameB_id U)
    clear HU HW
    cases ok : dropsOk T ks
    · have HZ : Hid (U.zs.length = 0) := Lib.hid (by rw [hdn ok]; rfl)
      clear hdf hdn
      go_wp2_with fail
      clear x0 x1 x2 x3 x4 x5 xz z0 z1 z2 z3 z4 z5 zz
      refine (SameTable_any U U a2 a3 c2 c3 _ (by omega) (by omega) (by exact S6.ints 3 rfl) (by exact S6.ints 1 rfl)).mono ?_
      rw [HS.out]
      rintro e w4 ⟨rfl, hb⟩
      have S7 := S6.below hb
      clear S6 hb
      obtain ⟨x0, x1, x2, x3, x4, x5, xz⟩ := facts3 (S7.cells 2 rfl)
      obtain ⟨z0, z1, z2, z3, z4, z5, zz⟩ := facts3 (S7.cells 0 rfl)
      go_wp2_with fail
      clear x0 x1 x2 x3 x4 x5 xz z0 z1 z2 z3 z4 z5 zz
      refine (SameTable_any U U a2 a3 c2 c3 _ (by omega) (by omega) (by exact S7.ints 3 rfl) (by exact S7.ints 1 rfl)).mono ?_
      rw [HS.out]
      rintro e w5 ⟨rfl, hb⟩
      have S8 := S7.below hb
      clear S7 hb
      obtain ⟨x0, x1, x2, x3, x4, x5, xz⟩ := facts3 (S8.cells 2 rfl)
      have lz : ((U.zs.length : Int) == 0) = true := by rw [HZ.out]; rfl
      go_wp2
      go_ret
      exact ⟨rfl, S8.old⟩
    · obtain ⟨hsT, hkB⟩ : soundB T = true ∧ keysB ks = true := by simpa [dropsOk] using ok
      have hkin : ∀ j, j < ks.length → 0 ≤ nth ks j ∧ nth ks j ≤ 99 := fun j hj => by
        have h1 := (by simpa [keysB] using hkB : ks.length ≤ 100 ∧ ∀ x ∈ ks, inB x 0 99 = true).2 _ (nth_mem hj)
        exact inB_iff.1 h1
      have HUe := Lib.hid (hdf ok)
      have HM := Lib.hid fun (L : List Int) (x : Int) (h0 : 0 ≤ x) (h9 : x ≤ 99) => drop_more hsT L h0 h9
      have NF := none_facts hsT
      clear hdf hdn hkB
      have HKI := KeysIn_any T a1 c1
      have hkk := keysOf_len T
      have HDN := DropAll_any T a1 c1 (keysOf T)
      obtain ⟨Nok, Neq, Nsnd, Nlen, Ntomb⟩ := NF
      simp only [Nok, Neq] at HDN
      have hNl : (dropAt T (keysOf T)).zs.length ≤ 17 := by rw [show (dropAt T (keysOf T)).zs.length = T.zs.length from dropL_len _ _]; exact n2
      generalize dropAt T (keysOf T) = N at HDN Nsnd Nlen Ntomb hNl
      clear Nok Neq
      generalize keysOf T = K at HKI HDN hkk
      have HFN := FewestTombs_any N
      rw [Nsnd] at HFN
      generalize fewT N = F at HFN Nlen Ntomb
      have HCF := CountSlots_any F
      rw [Ntomb] at HCF
      generalize countK F = f1 at HCF
      generalize countF F = f2 at HCF
      have HKI := Lib.hid HKI; have HDN := Lib.hid HDN; have HFN := Lib.hid HFN; have HCF := Lib.hid HCF
      clear Nsnd Ntomb hsT ok
      go_wp2_with fail
      clear x0 x1 x2 x3 x4 x5 xz z0 z1 z2 z3 z4 z5 zz
      refine (SameTable_any U U a2 a3 c2 c3 _ (by omega) (by omega) (by exact S6.ints 3 rfl) (by exact S6.ints 1 rfl)).mono ?_
      rw [HS.out]
      rintro e w4 ⟨rfl, hb⟩
      have S7 := (S6.below hb).turn (l' := [It.box w2.heap.size #[.int .i64 U.t, .int .i64 U.p, .slice a2 U.zs.length c2] 25, It.own l2 h2 a2 U.zs, It.box w1.heap.size #[.int .i64 T.t, .int .i64 T.p, .slice a1 T.zs.length c1] 25, It.own lok hik ak ks, It.own lo hi a1 T.zs]) fun i hi => by
        simp only [List.mem_cons] at hi ⊢
        rcases hi with h | h | h | h | h | h
        · exact .inr (.inr (.inl h))
        · exact .inr (.inr (.inr (.inl h)))
        · exact .inr (.inr (.inr (.inr (.inl h))))
        · exact .inr (.inr (.inr (.inr (.inr (.inl h)))))
        · exact .inr (.inr (.inr (.inr (.inr (.inr (.inl h))))))
        · cases h
      clear S6 hb
      obtain ⟨x0, x1, x2, x3, x4, x5, xz⟩ := facts3 (S7.cells 2 rfl)
      have wk : IntKind.i64.wrap ((ks.length : Int) - 1) = (ks.length : Int) - 1 := IntWalk.i64_in _ ⟨by omega, by omega⟩
      have S8 := (S7.alloc #[.int .i64 T.t, .int .i64 T.p, .slice a1 T.zs.length c1] 25).turn (l' := [It.box w4.heap.size #[.int .i64 T.t, .int .i64 T.p, .slice a1 T.zs.length c1] 25, It.own lo hi a1 T.zs, It.box w2.heap.size #[.int .i64 U.t, .int .i64 U.p, .slice a2 U.zs.length c2] 25, It.own l2 h2 a2 U.zs, It.box w1.heap.size #[.int .i64 T.t, .int .i64 T.p, .slice a1 T.zs.length c1] 25, It.own lok hik ak ks, It.own lo hi a1 T.zs]) fun i hi => by
        simp only [List.mem_cons] at hi ⊢
        rcases hi with h | h | h | h | h | h | h | h
        · exact .inl h
        · exact .inr (.inr (.inr (.inr (.inr (.inl h)))))
        · exact .inr (.inl h)
        · exact .inr (.inr (.inl h))
        · exact .inr (.inr (.inr (.inl h)))
        · exact .inr (.inr (.inr (.inr (.inl h))))
        · exact .inr (.inr (.inr (.inr (.inr (.inl h)))))
        · cases h
      have q1 := S7.sz 0 rfl
      have q2 := S7.sz 1 rfl
      have q3 := S7.sz 2 rfl
      have q4 := S7.sz 3 rfl
      have q5 := S7.sz 4 rfl
      have q0 := S7.size
      clear S7
      go_wp2_with fail
      clear x0 x1 x2 x3 x4 x5 xz
      go_loopw [10, 11, 12] (fun i _ _ wr => ∃ (j : Nat) (v : Int) (V : Tab) (aj : Option Addr) (cj lj hj : Nat), i = .int .i64 v ∧ j ≤ ks.length ∧ v = (j : Int) - 1 ∧ Hid (V = dropAt T (ks.drop j)) ∧ (hj ≤ w4.heap.size ∨ w4.heap.size + 1 ≤ lj) ∧ w4.heap.size < wr.heap.size ∧
          St w wr [It.box w4.heap.size #[.int .i64 V.t, .int .i64 V.p, .slice aj V.zs.length cj] 25, It.own lj hj aj V.zs, It.box w2.heap.size #[.int .i64 U.t, .int .i64 U.p, .slice a2 U.zs.length c2] 25, It.own l2 h2 a2 U.zs, It.box w1.heap.size #[.int .i64 T.t, .int .i64 T.p, .slice a1 T.zs.length c1] 25, It.own lok hik ak ks, It.own lo hi a1 T.zs]) (fun i _ _ _ => (intOf i + 1).toNat)
      case atStart => exact ⟨ks.length, _, T, a1, c1, lo, hi, by first | rfl | rw [wk], Nat.le_refl _, by first | rfl | exact wk, Lib.hid (by simp [dropAt, dropL_nil]), .inl q5, by simp, S8⟩
      case round =>
        obtain ⟨j, v, V, aj, cj, lj, hj, rfl, hjl, hv, HV, hfar, hsz, Sr⟩ := hrel
        clear S8 wk
        obtain ⟨x0, x1, x2, x3, x4, x5, xz⟩ := facts3 (Sr.cells 0 rfl)
        have hVl : V.zs.length ≤ 17 := by rw [HV.out, show (dropAt T (ks.drop j)).zs.length = T.zs.length from dropL_len _ _]; exact n2
        by_cases hlt : 1 ≤ j
        · obtain ⟨j, rfl⟩ : ∃ k, j = k + 1 := ⟨j - 1, by omega⟩
          obtain rfl : v = (j : Int) := by omega
          clear hv
          have d : decide (0 ≤ (j : Int)) = true := decide_eq_true (by omega)
          have d1 : decide ((j : Int) < (ks.length : Int)) = true := decide_eq_true (by omega)
          have wj : IntKind.i64.wrap ((j : Int) - 1) = (j : Int) - 1 := IntWalk.i64_in _ ⟨by omega, by omega⟩
          obtain ⟨b, o, x, rfl, qx, X⟩ := (Sr.ints 5 rfl).at (show j < ks.length by omega)
          have hx := hkin j (by omega)
          have i0 : (0 : Int) ≤ (j : Int) := by omega
          have i1 : (j : Int) < (ks.length : Int) := by omega
          have HMx := HM.out (ks.drop (j + 1)) (nth ks j) hx.1 hx.2
          rw [← HV.out] at HMx
          have hdr : ks.drop j = nth ks j :: ks.drop (j + 1) := by
            rw [List.drop_eq_getElem_cons (show j < ks.length by omega)]
            congr 1
            simp [nth, show j < ks.length by omega]
          rw [← hdr, X.out] at HMx
          have HD := DropKey_any V aj cj x
          have p0 := Sr.size
          have p1 : hj ≤ wr.heap.size := Sr.sz 1 rfl
          have p2 : w2.heap.size + 1 ≤ w4.heap.size := q1
          have p3 : h2 ≤ w4.heap.size := q2
          have p4 : w1.heap.size + 1 ≤ w4.heap.size := q3
          have p5 : hik ≤ w4.heap.size := q4
          have p6 : hi ≤ w4.heap.size := q5
          clear q1 q2 q3 q4 q5
          have hvl := dropT_len V x
          rcases HMx with ⟨ok2, e2⟩ | ⟨ok2, e2⟩
          · rw [ok2] at HD
            have HE := Lib.hid e2
            clear e2 ok2
            generalize dropT V x = V' at HD HE hvl
            have HD := Lib.hid HD
            have SrD := Sr.drew
            have LD := hL.below SrD.old hL.pos
            go_wp2_with fail
            have SrA := (Sr.alloc #[.int .i64 0, .int .i64 0, .slice none 0 0] 25).drew
            have LA := hL.below SrA.old hL.pos
            have A0 := SrA.three 1 rfl
            have A1 := (SrA.ints 6 rfl).key (show j < ks.length by omega) X
            go_region_held3 (fun w' => (w'.cell? ⟨w4.heap.size, 0, none⟩ = some (.int .i64 V.t) ∧ w'.cell? ⟨w4.heap.size, 1, none⟩ = some (.int .i64 V.p) ∧ w'.cell? ⟨w4.heap.size, 2, none⟩ = some (.slice aj V.zs.length cj)) ∧ w'.cell? ⟨b, o + j, none⟩ = some (.int .i64 x))
              (first
                | exact ⟨⟨x0, x1, x2⟩, qx⟩
                | exact ⟨A0, A1⟩
                | exact ⟨U6.three 1 rfl, (U6.ints 6 rfl).key (by omega) X⟩
                | exact ⟨U6.three 2 rfl, (U6.ints 7 rfl).key (by omega) X⟩
                | exact ⟨U7.three 2 rfl, (U7.ints 7 rfl).key (by omega) X⟩
                | go_keep)
              (first
                | (go_at_call 13; (with_reducible refine (HD.out _ (by omega) (by exact SrD.ints 1 rfl) LD).mono ?_); rintro e w6 ⟨a6, c6, rfl, ho6, hb6⟩; obtain ⟨l6, hl6, U6⟩ := St.ownEx (m := wr.heap.size) (SrD.below hb6) ho6 (by first | exact Nat.le_refl _ | simp); have U7 := U6.alloc #[.int .i64 V'.t, .int .i64 V'.p, .slice a6 V'.zs.length c6] 25)
                | (go_at_call 13; (with_reducible refine (HD.out _ (by omega) (by exact SrA.ints 2 rfl) LA).mono ?_); rintro e w6 ⟨a6, c6, rfl, ho6, hb6⟩; obtain ⟨l6, hl6, U6⟩ := St.ownEx (m := wr.heap.size + 1) (SrA.below hb6) ho6 (by first | exact Nat.le_refl _ | simp); obtain ⟨v0, v1, v2, v3, v4, v5, vz⟩ := facts3 (U6.cells 1 rfl); have z8 : wr.heap.size + 1 = (wr.alloc (.cells #[.int .i64 0, .int .i64 0, .slice none 0 0] 25)).drew.heap.size := (by simp); have U7 := U6.put3Box 1 rfl (by first | (simp [Far, It.box, It.own]; omega) | simp [Far, It.box, It.own]) (by omega) (.int .i64 V'.t) (.int .i64 V'.p) (.slice a6 V'.zs.length c6)))
            all_goals
              obtain ⟨r0, r1, r2, r3, r4, r5, rz⟩ := facts3 (U7.cells 2 rfl)
              first
                | obtain ⟨u0, u1, u2, u3, u4, u5, uz⟩ := facts3 (U7.cells 0 rfl)
                | obtain ⟨u0, u1, u2, u3, u4, u5, uz⟩ := facts3 (U7.cells 1 rfl)
              have p7 := U6.size
              have p9 : wr.drew.heap.size = wr.heap.size := rfl
              have p8 := hb6.size
              have U8 := (U7.put3Box 2 rfl (by simp [Far, It.box, It.own]; omega) (by omega) (.int .i64 V'.t) (.int .i64 V'.p) (.slice a6 V'.zs.length c6))
              go_wp2
              go_roundw
              case rel =>
                refine ⟨j, _, V', a6, c6, l6, w6.heap.size, rfl, by omega, by first | rfl | exact wj, HE, .inr ?far, Nat.lt_of_succ_le (U8.sz 2 rfl), ?st⟩
                case st =>
                  refine U8.turn fun i hi => ?_
                  simp only [List.set_cons_succ, List.set_cons_zero, List.mem_cons] at hi ⊢
                  rcases hi with h | h | h | h | h | h | h | h
                  · exact .inr (.inr (.inl h))
                  · first | exact .inr (.inl h) | exact .inl h
                  · exact .inr (.inr (.inr (.inr (.inl h))))
                  · exact .inr (.inr (.inr (.inr (.inr (.inl h)))))
                  · exact .inr (.inr (.inr (.inr (.inr (.inr (.inl h))))))
                  · exact .inr (.inr (.inr (.inr (.inr (.inr (.inr (.inl h)))))))
                  · exact .inr (.inr (.inr (.inr (.inr (.inr (.inr (.inr (.inl h))))))))
                  · cases h
                case far => omega
              case measure => first | (simp [intOf]; omega) | simp [intOf]
          · rw [ok2] at HD
            have HE : Hid (V = dropAt T (ks.drop j)) := Lib.hid (by rw [HV.out]; unfold dropAt; rw [e2])
            clear e2 ok2
            generalize dropT V x = V' at HD hvl
            have HD := Lib.hid HD
            have SrD := Sr.drew
            have LD := hL.below SrD.old hL.pos
            go_wp2_with fail
            have SrA := (Sr.alloc #[.int .i64 0, .int .i64 0, .slice none 0 0] 25).drew
            have LA := hL.below SrA.old hL.pos
            have A0 := SrA.three 1 rfl
            have A1 := (SrA.ints 6 rfl).key (show j < ks.length by omega) X
            go_region_held3 (fun w' => (w'.cell? ⟨w4.heap.size, 0, none⟩ = some (.int .i64 V.t) ∧ w'.cell? ⟨w4.heap.size, 1, none⟩ = some (.int .i64 V.p) ∧ w'.cell? ⟨w4.heap.size, 2, none⟩ = some (.slice aj V.zs.length cj)) ∧ w'.cell? ⟨b, o + j, none⟩ = some (.int .i64 x))
              (first
                | exact ⟨⟨x0, x1, x2⟩, qx⟩
                | exact ⟨A0, A1⟩
                | exact ⟨U6.three 1 rfl, (U6.ints 6 rfl).key (by omega) X⟩
                | exact ⟨U6.three 2 rfl, (U6.ints 7 rfl).key (by omega) X⟩
                | exact ⟨U7.three 2 rfl, (U7.ints 7 rfl).key (by omega) X⟩
                | go_keep)
              (first
                | (go_at_call 13; (with_reducible refine (HD.out _ (by omega) (by exact SrD.ints 1 rfl) LD).mono ?_); rintro e w6 ⟨a6, c6, rfl, ho6, hb6⟩; obtain ⟨l6, hl6, U6⟩ := St.ownEx (m := wr.heap.size) (SrD.below hb6) ho6 (by first | exact Nat.le_refl _ | simp); have U7 := U6.alloc #[.int .i64 V'.t, .int .i64 V'.p, .slice a6 V'.zs.length c6] 25)
                | (go_at_call 13; (with_reducible refine (HD.out _ (by omega) (by exact SrA.ints 2 rfl) LA).mono ?_); rintro e w6 ⟨a6, c6, rfl, ho6, hb6⟩; obtain ⟨l6, hl6, U6⟩ := St.ownEx (m := wr.heap.size + 1) (SrA.below hb6) ho6 (by first | exact Nat.le_refl _ | simp); obtain ⟨v0, v1, v2, v3, v4, v5, vz⟩ := facts3 (U6.cells 1 rfl); have z8 : wr.heap.size + 1 = (wr.alloc (.cells #[.int .i64 0, .int .i64 0, .slice none 0 0] 25)).drew.heap.size := (by simp); have U7 := U6.put3Box 1 rfl (by first | (simp [Far, It.box, It.own]; omega) | simp [Far, It.box, It.own]) (by omega) (.int .i64 V'.t) (.int .i64 V'.p) (.slice a6 V'.zs.length c6)))
            all_goals
              obtain ⟨r0, r1, r2, r3, r4, r5, rz⟩ := facts3 (U7.cells 2 rfl)
              first
                | obtain ⟨u0, u1, u2, u3, u4, u5, uz⟩ := facts3 (U7.cells 0 rfl)
                | obtain ⟨u0, u1, u2, u3, u4, u5, uz⟩ := facts3 (U7.cells 1 rfl)
              have p7 := U6.size
              have p9 : wr.drew.heap.size = wr.heap.size := rfl
              have p8 := hb6.size
              go_wp2
              go_roundw
              case rel => exact ⟨j, _, V, aj, cj, lj, hj, rfl, by omega, by first | rfl | exact wj, HE, hfar, Nat.lt_of_succ_le (U7.sz 2 rfl), U7.turn fun i hi => List.mem_cons_of_mem _ (List.mem_cons_of_mem _ hi)⟩
              case measure => first | (simp [intOf]; omega) | simp [intOf]
        · have d : decide (0 ≤ v) = false := decide_eq_false (by omega)
          obtain rfl : j = 0 := by omega
          obtain rfl : U = V := by rw [HV.out, HUe.out]; rfl
          clear hv HV HM HUe hkin x0 x1 x2 x3 x4 x5 xz
          obtain ⟨x0, x1, x2, x3, x4, x5, xz⟩ := facts3 (Sr.cells 4 rfl)
          go_wp2_with fail
          clear x0 x1 x2 x3 x4 x5 xz
          refine (HKI.out _ (by omega) (by exact Sr.ints 6 rfl)).mono ?_
          rintro e w5 ⟨a5, c5, rfl, ho, hb⟩
          have S9 := (Sr.below hb).own ho
          clear Sr ho hb
          obtain ⟨x0, x1, x2, x3, x4, x5, xz⟩ := facts3 (S9.cells 5 rfl)
          go_wp2_with fail
          clear x0 x1 x2 x3 x4 x5 xz
          refine (HDN.out a5 c5 _ (by omega) (by omega) (by exact S9.ints 7 rfl) (by exact S9.ints 0 rfl)).mono ?_
          rintro e w6 ⟨a6, c6, rfl, ho, hb⟩
          have S11 := ((S9.below hb).own ho).alloc #[.int .i64 N.t, .int .i64 N.p, .slice a6 N.zs.length c6] 25
          clear S9 ho hb
          go_wp2_with fail
          refine (HFN.out a6 c6 _ (by omega) (by exact S11.ints 1 rfl)).mono ?_
          rintro e w7 ⟨a7, c7, rfl, ho, hb⟩
          have S13 := ((S11.below hb).own ho).alloc #[.int .i64 F.t, .int .i64 F.p, .slice a7 F.zs.length c7] 25
          clear S11 ho hb
          go_wp2_with fail
          refine (HCF.out a7 c7 _ (by omega) (by exact S13.ints 1 rfl)).mono ?_
          rintro e w8 ⟨rfl, hb⟩
          have S14 := S13.below hb
          clear S13 hb
          obtain ⟨x0, x1, x2, x3, x4, x5, xz⟩ := facts3 (S14.cells 5 rfl)
          obtain ⟨z0, z1, z2, z3, z4, z5, zz⟩ := facts3 (S14.cells 7 rfl)
          go_wp2_with fail
          clear x0 x1 x2 x3 x4 x5 xz z0 z1 z2 z3 z4 z5 zz
          refine (SameTable_any U U aj a2 cj c2 _ (by omega) (by omega) (by exact S14.ints 6 rfl) (by exact S14.ints 8 rfl)).mono ?_
          rw [HS.out]
          rintro e w9 ⟨rfl, hb⟩
          have S15 := S14.below hb
          go_wp2
          go_ret
          exact ⟨rfl, S15.old⟩
  · have t1 : decide (1048576 < (ys.length : Int)) = true := by simp; omega
    go_enter Tryz.func4, Tryz.ntmps4
    go_wp2_with fail
    go_ret
    exact ⟨rfl, S0.old⟩

end Go.Proofs.YtpbffdjiijpigaaGreatDoor

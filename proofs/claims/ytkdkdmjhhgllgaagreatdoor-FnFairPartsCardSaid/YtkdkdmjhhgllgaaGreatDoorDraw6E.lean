/-
  What chapter 6 draws: DrawFairAll.
-/
import Derived.Test.YtkdkdmjhhgllgaaGreatDoorDraws2All
import Derived.Test.YtkdkdmjhhgllgaaGreatDoorDraw2W
import Derived.Test.YtkdkdmjhhgllgaaGreatDoorCount
namespace Go.Proofs.YtkdkdmjhhgllgaaGreatDoor
open Go.RowKit

theorem setCell_at4 {w : World} {b : Nat} {x y z : Value} {t : TypeId} (h : w.heap[b]? = some (.cells #[x, y, z] t (0, 0))) (x' y' z' : Value) :
    (((w.setCell ⟨b, 0, none⟩ x').setCell ⟨b, 1, none⟩ y').setCell ⟨b, 2, none⟩ z').heap[b]? = some (.cells #[x', y', z'] t (0, 0)) := by
  simp [World.setCell, Array.getElem?_modify, h]

theorem countF_hi (T : Tab) : -1 ≤ countF T ∧ countF T ≤ T.zs.length := by
  have := cnt_le freeP T.zs T.zs.length
  unfold countF
  split <;> omega

theorem ownsRow_capD {w : World} {lo n c m : Nat} {a : Option Addr} {e : TypeId} {xs : List Value} (h : w.ownsRow lo e 1 (.slice a n c) m xs) : n ≤ c := by
  rcases h.2 with ⟨e1, _⟩ | ⟨g, cap, cur, e1, _, _, h1, _⟩
  · cases e1; exact Nat.le_refl _
  · cases e1; exact h1

theorem pull_row3 {w0 w : World} {l : List It} {i j k m : It} (h : St w0 w (i :: j :: k :: m :: l)) : St w0 w (m :: i :: j :: l) := h.turn fun x hx => by
  simp only [List.mem_cons] at hx ⊢
  rcases hx with h | h | h | h
  · exact .inr (.inr (.inr (.inl h)))
  · exact .inl h
  · exact .inr (.inl h)
  · exact .inr (.inr (.inr (.inr h)))

set_option maxHeartbeats 8000000 in
set_option maxRecDepth 100000 in
theorem DrawFairAllC_any {w0 w : World} {l : List It} {a : Option Addr} {c bh : Nat} {code : List Int} (S : St w0 w (It.bytes bh a code :: l)) (h : Came c code) :
    Calls Tryz.prog 5 #[.slice a code.length c] w fun e w' => ∃ (T : Tab) (a' : Option Addr) (c' lo hi : Nat) (ks : List Int) (a2 : Option Addr) (c2 lo2 hi2 : Nat), e = .returned (.tuple #[tabV T a' c', .slice a2 ks.length c2]) ∧ DrawnB T ∧ ks.length ≤ 101 ∧ (∀ x, x ∈ ks → -1 ≤ x ∧ x ≤ 100) ∧ w.heap.size ≤ lo ∧ ks.length ≤ c2 ∧
      St w0 w' (It.own lo2 hi2 a2 ks :: It.own lo hi a' T.zs :: l) := by
  obtain ⟨i0, hi, hz0, hz1, hz2⟩ := info_parts Tryz.info3
  have HI := Lib.hid hi; have HZ0 := Lib.hid hz0; have HZ1 := Lib.hid hz1; have HZ2 := Lib.hid hz2
  clear hi hz0 hz1 hz2
  have hz := S.size
  have Sl : St w0 w l := S.turn fun i hi => List.mem_cons_of_mem _ hi
  have FL : Hid (∀ i : It, w.heap.size ≤ i.lo → Far i l) := Lib.hid fun i h => Far.older Sl (fun _ h => h) h
  have S0 := (S.alloc #[.int .i64 0, .int .i64 0, .slice none 0 0] 25).turn (l' := It.bytes bh a code :: It.box w.heap.size #[.int .i64 0, .int .i64 0, .slice none 0 0] 25 :: l) fun i hi => by
    simp only [List.mem_cons] at hi ⊢
    rcases hi with h | h | h
    · exact .inr (.inl h)
    · exact .inl h
    · exact .inr (.inr h)
  have C := Came.open S0 h
  have zA := w.size_alloc (.cells #[.int .i64 0, .int .i64 0, .slice none 0 0] 25)
  obtain ⟨BH, hBH⟩ : ∃ BH, (w.alloc (.cells #[.int .i64 0, .int .i64 0, .slice none 0 0] 25)).heap.size = BH := ⟨_, rfl⟩
  rw [hBH] at C zA
  clear hBH
  generalize code.length = n at C ⊢
  generalize code.take 2000 = cd at C
  go_enter Tryz.func5, Tryz.ntmps5
  go_wp2_with fail
  refine C.mono ?_
  rintro e w1 ⟨r, rfl, hr, ok, F, S1⟩
  have hr1 : r + 1 ≤ w1.heap.size := S1.sz 0 rfl
  have hbh1 : BH ≤ w1.heap.size := S1.sz 1 rfl
  go_wp2_with fail
  refine (l6Some_any S1 ok (by omega) F (by omega)).mono ?_
  rintro e w2 ⟨T0, a', c', lo, hi2, p', rfl, hT, hp', hlo, S2⟩
  have zB : r + 1 ≤ w2.heap.size := S2.sz 1 rfl
  have zb : BH ≤ w2.heap.size := S2.sz 2 rfl
  have zC : w.heap.size + 1 ≤ w2.heap.size := S2.sz 3 rfl
  have zD : hi2 ≤ w2.heap.size := S2.sz 0 rfl
  have S4 : St w0 (w2.alloc (.cells #[.int .i64 T0.t, .int .i64 T0.p, .slice a' T0.zs.length c'] 25)) (rd r a c cd p' :: It.bytes BH a cd :: It.own lo hi2 a' T0.zs :: It.box w2.heap.size #[.int .i64 T0.t, .int .i64 T0.p, .slice a' T0.zs.length c'] 25 :: It.box w.heap.size #[.int .i64 0, .int .i64 0, .slice none 0 0] 25 :: l) :=
    (S2.alloc #[.int .i64 T0.t, .int .i64 T0.p, .slice a' T0.zs.length c'] 25).turn fun i hi => by
      simp only [List.mem_cons] at hi ⊢
      rcases hi with h | h | h | h | h
      · exact .inr (.inr (.inl h))
      · exact .inr (.inr (.inr (.inl h)))
      · exact .inr (.inl h)
      · exact .inl h
      · exact .inr (.inr (.inr (.inr h)))
  have F4 : ∀ (q' lo' hi' : Nat) (ad : Option Addr) (ys : List Int) (cs : Array Value), r + 1 ≤ lo' → Far (rd r a c cd q') (It.bytes BH a cd :: It.own lo' hi' ad ys :: It.box w2.heap.size cs 25 :: It.box w.heap.size #[.int .i64 0, .int .i64 0, .slice none 0 0] 25 :: l) :=
    fun q' lo' hi' ad ys cs hx => ⟨F.1, .inr hx, .inr (by show r + 1 ≤ w2.heap.size; omega), Far.same F.2 q'⟩
  have F4 := Lib.hid F4
  have hzz := w2.size_alloc (.cells #[.int .i64 T0.t, .int .i64 T0.p, .slice a' T0.zs.length c'] 25)
  clear S1 S2
  go_wp2_with fail
  refine (pick_any S4 ok (by omega) (F4.out _ _ _ _ _ _ (by omega)) 2 (by omega) (by omega) (by omega)).mono ?_
  rintro e w3 ⟨k, k0, k1, rfl, S5⟩
  have z5 : w2.heap.size + 1 ≤ w3.heap.size := S5.sz 3 rfl
  clear S4
  cases e0 : (k == 0)
  rotate_left
  · obtain ⟨x0, x1, x2, x3, x4, x5, xz⟩ := facts3 (S5.cells 3 rfl)
    go_wp2_with fail
    refine (l1Empty_any S5 ok (by omega) (F4.out _ _ _ _ _ _ (by omega)) (by omega)).mono ?_
    rintro e w4 ⟨n, t, q, a1, c1, lo1, rfl, n1, n2, ⟨t1, t2⟩, ⟨q1, q2⟩, hlo1, S6⟩
    have R1 := S6.rowInts 0 rfl
    have z1 : lo1 < w4.heap.size := S6.rowLt 0 rfl (by simp; omega)
    have S7 : St w0 w4 (It.own lo1 w4.heap.size a1 (List.replicate n (-1)) :: rd r a c cd (p' + 1 + 3) :: It.bytes BH a cd :: It.box w2.heap.size #[.int .i64 T0.t, .int .i64 T0.p, .slice a' T0.zs.length c'] 25 :: It.box w.heap.size #[.int .i64 0, .int .i64 0, .slice none 0 0] 25 :: l) :=
      (S6.add (It.own lo1 w4.heap.size a1 (List.replicate n (-1))) (Nat.le_refl _) ⟨R1, fun p hp => (R1.1 p hp).2⟩).turn fun i hi => by
        simp only [List.mem_cons] at hi ⊢
        rcases hi with h | h | h | h | h | h
        · exact .inl h
        · exact .inr (.inr (.inl h))
        · exact .inr (.inr (.inr (.inl h)))
        · exact .inr (.inr (.inr (.inr (.inr (.inl h)))))
        · exact .inr (.inr (.inr (.inr (.inr (.inr (.inl h))))))
        · exact .inr (.inr (.inr (.inr (.inr (.inr (.inr h))))))
    have D0 : DrawnB ⟨t, q, List.replicate n (-1)⟩ := drawn_of (by simp; omega) (by simp; omega) (by show -1 ≤ t; omega) (by show t ≤ 16; omega) (by show -1 ≤ q; omega) (by show q ≤ 16; omega) (fun x hx => by rw [List.eq_of_mem_replicate hx]; omega)
    have hn : n = (List.replicate n (-1 : Int)).length := by simp
    generalize List.replicate n (-1 : Int) = zs at S7 D0 hn
    subst hn
    obtain ⟨T, rfl, rfl, rfl⟩ : ∃ T : Tab, t = T.t ∧ q = T.p ∧ zs = T.zs := ⟨⟨t, q, zs⟩, rfl, rfl, rfl⟩
    have S8 := S7.set3Box 3 rfl ⟨.inr (by show w2.heap.size + 1 ≤ lo1; omega), .inl (by show r + 1 ≤ w2.heap.size; omega), .inl (by show BH ≤ w2.heap.size; omega), .inl (by show w.heap.size + 1 ≤ w2.heap.size; omega), FL.out _ (by show w.heap.size ≤ w2.heap.size; omega)⟩ (by omega) (.int .i64 T.t) (.int .i64 T.p) (.slice a1 T.zs.length c1)
    simp only [List.set_cons_zero, List.set_cons_succ] at S8
    have SQ : ∃ p'' : Nat, p'' ≤ 6000 ∧ St w0 _ (rd r a c cd p'' :: It.bytes BH a cd :: It.own lo1 w4.heap.size a1 T.zs :: It.box w2.heap.size #[.int .i64 T.t, .int .i64 T.p, .slice a1 T.zs.length c1] 25 :: It.box w.heap.size #[.int .i64 0, .int .i64 0, .slice none 0 0] 25 :: l) := ⟨p' + 1 + 3, by omega, S8.turn fun i hi => by
      simp only [List.mem_cons] at hi ⊢
      rcases hi with h | h | h | h
      · exact .inr (.inl h)
      · exact .inr (.inr (.inl h))
      · exact .inl h
      · exact .inr (.inr (.inr h))⟩
    obtain ⟨y0, y1, y2, y3, y4, y5, yz⟩ := facts3 (S7.cells 3 rfl)
    clear S5 S6 S7 S8 R1 x0 x1 x2 x3 x4 x5 xz
    replace D0 : DrawnB T := D0
    obtain ⟨p'', hp'', SQ⟩ := SQ
    have hor : w4.heap.size ≤ w2.heap.size ∨ w2.heap.size + 1 ≤ lo1 := .inr (by omega)
    have hlo2 : r + 1 ≤ lo1 := by omega
    have hlo3 : w.heap.size + 1 ≤ lo1 := by omega
    obtain ⟨n1, n2⟩ := D0.len
    have HCS := fun (W : World) (h : IntsAt W a1 T.zs) => specCountSlots_any T a1 c1 W (by omega) h
    have hcf := countF_hi T
    generalize countK T = ck at HCS
    generalize countT T = ct at HCS
    generalize countF T = cf at HCS hcf
    replace HCS := Lib.hid HCS
    go_wp2_with fail
    clear y0 y1 y2 y3 y4 y5 yz
    refine (HCS.out _ (by exact SQ.ints 2 rfl)).mono ?_
    rintro e w5 ⟨rfl, hb⟩
    have S9 := SQ.below hb
    clear SQ hb HCS
    go_wp2_with fail
    have b9 : r + 1 ≤ w5.heap.size := S9.sz 0 rfl
    have b10 : w2.heap.size + 1 ≤ w5.heap.size := S9.sz 3 rfl
    refine (pick_any S9 ok (by omega) (F4.out _ _ _ _ _ _ hlo2) (max cf 1 + 1) (by omega) (by omega) (by omega)).mono ?_
    rintro e w6 ⟨kk, kk0, kk1, rfl, S10⟩
    obtain ⟨m, rfl⟩ : ∃ m : Nat, kk = m := ⟨kk.toNat, by omega⟩
    clear S9
    have b11 : w2.heap.size + 1 ≤ w6.heap.size := S10.sz 3 rfl
    have b12 : w4.heap.size ≤ w6.heap.size := S10.sz 2 rfl
    go_wp2_with fail
    refine (l1KeysRow_any S10 ok (by omega) (F4.out _ _ _ _ _ _ hlo2) (by omega) m (by omega)).mono ?_
    rintro e w7 ⟨ks, a7, c7, lo7, hi7, p7, rfl, hks1, hks2, hp7, hlo7, hlt7, S11⟩
    clear S10
    have b13 : w2.heap.size + 1 ≤ w7.heap.size := S11.sz 4 rfl
    have S12 : St w0 w7 (rd r a c cd p7 :: It.bytes BH a cd :: It.row lo7 hi7 (.slice a7 ks.length c7) ks :: It.own lo1 w4.heap.size a1 T.zs :: It.box w2.heap.size #[.int .i64 T.t, .int .i64 T.p, .slice a1 T.zs.length c1] 25 :: It.box w.heap.size #[.int .i64 0, .int .i64 0, .slice none 0 0] 25 :: l) := S11.turn fun i hi => by
      simp only [List.mem_cons] at hi ⊢
      rcases hi with h | h | h | h
      · exact .inr (.inl h)
      · exact .inr (.inr (.inl h))
      · exact .inl h
      · exact .inr (.inr (.inr h))
    have F7 : ∀ q : Nat, Far (rd r a c cd q) (It.bytes BH a cd :: It.row lo7 hi7 (.slice a7 ks.length c7) ks :: It.own lo1 w4.heap.size a1 T.zs :: It.box w2.heap.size #[.int .i64 T.t, .int .i64 T.p, .slice a1 T.zs.length c1] 25 :: It.box w.heap.size #[.int .i64 0, .int .i64 0, .slice none 0 0] 25 :: l) :=
      fun q => ⟨(F4.out 0 _ 0 none [] #[] hlo2).1, .inr (by show r + 1 ≤ lo7; omega), (F4.out q _ _ _ _ _ hlo2).2⟩
    have F7 := Lib.hid F7
    clear S11
    go_wp2_with fail
    refine (pick_any S12 ok (by omega) (F7.out _) 24 (by omega) (by omega) (by omega)).mono ?_
    rintro e w8 ⟨k8, k80, k81, rfl, S13⟩
    clear S12
    have b14 : w2.heap.size + 1 ≤ w8.heap.size := S13.sz 4 rfl
    have hKS := Lib.hid hks2
    clear hks2
    cases e8 : (k8 == 0)
    · obtain ⟨x0, x1, x2, x3, x4, x5, xz⟩ := facts3 (S13.cells 4 rfl)
      obtain ⟨y0, y1, y2, y3, y4, y5, yz⟩ := facts3 (S13.cells 5 rfl)
      obtain ⟨z0, z1, z2, z3, z4, z5, zz⟩ := facts3 (setCell_at4 (S13.cells 5 rfl) (.int .i64 T.t) (.int .i64 T.p) (.slice a1 T.zs.length c1))
      have O2 := ownsRow_ints (S13.rows 2 rfl)
      have hcap := ownsRow_capD (S13.rows 2 rfl)
      have S14 : St w0 w8 (It.own lo7 w8.heap.size a7 ks :: It.own lo1 w4.heap.size a1 T.zs :: l) := (S13.add (It.own lo7 w8.heap.size a7 ks) (Nat.le_refl _) ⟨O2, fun p hp => (O2.1 p hp).2⟩).turn fun k hk => by
        simp only [List.mem_cons] at hk ⊢
        rcases hk with h | h | h
        · exact .inl h
        · exact .inr (.inr (.inr (.inr (.inl h))))
        · exact .inr (.inr (.inr (.inr (.inr (.inr (.inr h))))))
      have S15 := S14.set3Far (b := w.heap.size) ⟨.inr (by show w.heap.size + 1 ≤ lo7; omega), .inr (by show w.heap.size + 1 ≤ lo1; omega), FL.out _ (Nat.le_refl _)⟩ hz (.int .i64 T.t) (.int .i64 T.p) (.slice a1 T.zs.length c1)
      clear S14 O2
      go_wp2_with fail
      refine bodyPost_ret (v := .tuple #[tabV T a1 c1, .slice a7 ks.length c7]) (by simp [results, Tryz.results5, go_sem, z0, z1, z2]) rfl ?_
      exact ⟨T, a1, c1, lo1, _, ks, a7, c7, _, _, rfl, D0, by omega, fun x hx => by have := hKS.out x hx; omega, by omega, hcap, S15⟩
    · have S14 := ((S13.lit [100, -1] 3).push).drew
      simp only [List.map_cons, List.map_nil] at S14
      have F14 : Far (rd r a c cd (p7 + 1)) (It.bytes BH a cd :: It.own w8.heap.size (w8.heap.size + 1) (some ⟨w8.heap.size, 0, none⟩) [100, -1] :: It.row lo7 hi7 (.slice a7 ks.length c7) ks :: It.own lo1 w4.heap.size a1 T.zs :: It.box w2.heap.size #[.int .i64 T.t, .int .i64 T.p, .slice a1 T.zs.length c1] 25 :: It.box w.heap.size #[.int .i64 0, .int .i64 0, .slice none 0 0] 25 :: l) :=
        ⟨(F7.out 0).1, .inr (by show r + 1 ≤ w8.heap.size; omega), (F7.out _).2⟩
      have FO : Hid (∀ q : Nat, Far (It.row lo7 hi7 (.slice a7 ks.length c7) ks) (rd r a c cd q :: It.bytes BH a cd :: It.own lo1 w4.heap.size a1 T.zs :: It.box w2.heap.size #[.int .i64 T.t, .int .i64 T.p, .slice a1 T.zs.length c1] 25 :: It.box w.heap.size #[.int .i64 0, .int .i64 0, .slice none 0 0] 25 :: l)) :=
        Lib.hid fun q => ⟨.inl (by show r + 1 ≤ lo7; omega), .inl (by show BH ≤ lo7; omega), .inl (by show w4.heap.size ≤ lo7; omega), .inl (by show w2.heap.size + 1 ≤ lo7; omega), .inl (by show w.heap.size + 1 ≤ lo7; omega), FL.out _ (by show w.heap.size ≤ lo7; omega)⟩
      obtain ⟨x0, x1, x2, x3, x4, x5, xz⟩ := facts3 (S13.cells 4 rfl)
      go_wp2_with fail
      go_region_law
        (first
          | (go_simp; go_at_call 18; refine (num_any S14 ok (by omega) F14 0 2 _ _ _ 2 _ rfl rfl (by simp) (by simp) (by omega)).mono ?_; rintro e w9 ⟨i, hi, rfl, S15⟩; have z15 : hi7 ≤ w9.heap.size := S15.sz 3 rfl; obtain ⟨v0, v1, v2, v3, v4, v5, vz⟩ := facts3 (S15.cells 5 rfl); obtain ⟨q0, q1, q2, q3, q4, q5, qz⟩ := facts3 (S15.cells 6 rfl))
          | (refine step_append_lies _ (by rfl) _ _ _ (by rfl) lo7 3 i0 _ 1 8 Tryz.underlying23 HI.out HZ0.out HZ1.out HZ2.out rfl (by omega) _ _ _ (by rfl) ((S15.rows 3 rfl).alloc _) ⟨w9.heap.size, 0, none⟩ 1 1 [.int .i64 (nth [100, -1] i)] (by rfl) (by rfl) (World.news_of_block (cs := #[.int .i64 (nth [100, -1] i)]) (t := 3) (fr := (0, 0)) (heap_alloc_new w9 _)) (by simp [Value.oneCell']) (by omega) (by unfold maxLen; omega) (by omega) (by simp; omega) (w9.heap.size + 1) (by simp) ?_; intro gg cap w10 hown4 hgrow4 hat4 hlt4; have S16 := (pull_row3 S15).append (FO.out _) (by omega) _ hown4 hgrow4; obtain ⟨u0, u1, u2, u3, u4, u5, uz⟩ := facts3 (S16.cells 5 rfl); obtain ⟨p0, p1, p2, p3, p4, p5, pz⟩ := facts3 (S16.cells 4 rfl)))
      all_goals
        obtain ⟨b1, b2⟩ := nth_all (P := fun x => -1 ≤ x ∧ x ≤ 100) (xs := [100, -1]) (by decide) hi
        generalize nth [100, -1] i = x at b1 b2 S16 ⊢
        obtain ⟨z0, z1, z2, z3, z4, z5, zz⟩ := facts3 (setCell_at4 (S16.cells 5 rfl) (.int .i64 T.t) (.int .i64 T.p) (.slice a1 T.zs.length c1))
        have O2 := S16.rowInts 0 rfl
        have hcap : (ks ++ [x]).length ≤ cap := by rw [List.length_append]; exact ownsRow_capD (hown4)
        have S17 : St w0 w10 (It.own lo7 w10.heap.size (some ⟨gg, 0, none⟩) (ks ++ [x]) :: It.own lo1 w4.heap.size a1 T.zs :: l) := (S16.add (It.own lo7 w10.heap.size (some ⟨gg, 0, none⟩) (ks ++ [x])) (Nat.le_refl _) ⟨O2, fun p hp => (O2.1 p hp).2⟩).turn fun k hk => by
          simp only [List.mem_cons] at hk ⊢
          rcases hk with h | h | h
          · exact .inl h
          · exact .inr (.inr (.inr (.inr (.inl h))))
          · exact .inr (.inr (.inr (.inr (.inr (.inr (.inr h))))))
        have S18 := S17.set3Far (b := w.heap.size) ⟨.inr (by show w.heap.size + 1 ≤ lo7; omega), .inr (by show w.heap.size + 1 ≤ lo1; omega), FL.out _ (Nat.le_refl _)⟩ hz (.int .i64 T.t) (.int .i64 T.p) (.slice a1 T.zs.length c1)
        clear O2 S17 S16 S15 S13 S14 hown4 hgrow4 hat4 hlt4 u0 u1 u2 u3 u4 u5 uz p0 p1 p2 p3 p4 p5 pz v0 v1 v2 v3 v4 v5 vz q0 q1 q2 q3 q4 q5 qz x0 x1 x2 x3 x4 x5 xz F14 FO F7 F4
        go_wp2
        refine bodyPost_ret (v := .tuple #[tabV T a1 c1, .slice (some ⟨gg, 0, none⟩) (ks.length + 1) cap]) (by simp [results, Tryz.results5, go_sem, z0, z1, z2]) rfl ?_
        refine ⟨T, a1, c1, lo1, _, ks ++ [x], some ⟨gg, 0, none⟩, cap, _, _, by simp [List.length_append], D0, by simp; omega, fun y hy => ?_, by omega, hcap, S18⟩
        rcases List.mem_append.1 hy with h | h
        · have := hKS.out y h; omega
        · obtain rfl := List.mem_singleton.1 h; exact ⟨b1, b2⟩
  · obtain ⟨p'', hp'', SQ⟩ : ∃ p'' : Nat, p'' ≤ 6000 ∧ St w0 _ (rd r a c cd p'' :: It.bytes BH a cd :: It.own lo hi2 a' T0.zs :: It.box w2.heap.size #[.int .i64 T0.t, .int .i64 T0.p, .slice a' T0.zs.length c'] 25 :: It.box w.heap.size #[.int .i64 0, .int .i64 0, .slice none 0 0] 25 :: l) := ⟨p' + 1, by omega, S5⟩
    have hor : hi2 ≤ w2.heap.size ∨ w2.heap.size + 1 ≤ lo := .inl zD
    have hlo2 : r + 1 ≤ lo := by omega
    have hlo3 : w.heap.size + 1 ≤ lo := by omega
    have D0 := hT
    generalize T0 = T at SQ D0
    clear S5 hT
    obtain ⟨n1, n2⟩ := D0.len
    have HCS := fun (W : World) (h : IntsAt W a' T.zs) => specCountSlots_any T a' c' W (by omega) h
    have hcf := countF_hi T
    generalize countK T = ck at HCS
    generalize countT T = ct at HCS
    generalize countF T = cf at HCS hcf
    replace HCS := Lib.hid HCS
    obtain ⟨x0, x1, x2, x3, x4, x5, xz⟩ := facts3 (SQ.cells 3 rfl)
    go_wp2_with fail
    clear x0 x1 x2 x3 x4 x5 xz
    refine (HCS.out _ (by exact SQ.ints 2 rfl)).mono ?_
    rintro e w5 ⟨rfl, hb⟩
    have S9 := SQ.below hb
    clear SQ hb HCS
    go_wp2_with fail
    have b9 : r + 1 ≤ w5.heap.size := S9.sz 0 rfl
    have b10 : w2.heap.size + 1 ≤ w5.heap.size := S9.sz 3 rfl
    refine (pick_any S9 ok (by omega) (F4.out _ _ _ _ _ _ hlo2) (max cf 1 + 1) (by omega) (by omega) (by omega)).mono ?_
    rintro e w6 ⟨kk, kk0, kk1, rfl, S10⟩
    obtain ⟨m, rfl⟩ : ∃ m : Nat, kk = m := ⟨kk.toNat, by omega⟩
    clear S9
    have b11 : w2.heap.size + 1 ≤ w6.heap.size := S10.sz 3 rfl
    have b12 : hi2 ≤ w6.heap.size := S10.sz 2 rfl
    go_wp2_with fail
    refine (l1KeysRow_any S10 ok (by omega) (F4.out _ _ _ _ _ _ hlo2) (by omega) m (by omega)).mono ?_
    rintro e w7 ⟨ks, a7, c7, lo7, hi7, p7, rfl, hks1, hks2, hp7, hlo7, hlt7, S11⟩
    clear S10
    have b13 : w2.heap.size + 1 ≤ w7.heap.size := S11.sz 4 rfl
    have S12 : St w0 w7 (rd r a c cd p7 :: It.bytes BH a cd :: It.row lo7 hi7 (.slice a7 ks.length c7) ks :: It.own lo hi2 a' T.zs :: It.box w2.heap.size #[.int .i64 T.t, .int .i64 T.p, .slice a' T.zs.length c'] 25 :: It.box w.heap.size #[.int .i64 0, .int .i64 0, .slice none 0 0] 25 :: l) := S11.turn fun i hi => by
      simp only [List.mem_cons] at hi ⊢
      rcases hi with h | h | h | h
      · exact .inr (.inl h)
      · exact .inr (.inr (.inl h))
      · exact .inl h
      · exact .inr (.inr (.inr h))
    have F7 : ∀ q : Nat, Far (rd r a c cd q) (It.bytes BH a cd :: It.row lo7 hi7 (.slice a7 ks.length c7) ks :: It.own lo hi2 a' T.zs :: It.box w2.heap.size #[.int .i64 T.t, .int .i64 T.p, .slice a' T.zs.length c'] 25 :: It.box w.heap.size #[.int .i64 0, .int .i64 0, .slice none 0 0] 25 :: l) :=
      fun q => ⟨(F4.out 0 _ 0 none [] #[] hlo2).1, .inr (by show r + 1 ≤ lo7; omega), (F4.out q _ _ _ _ _ hlo2).2⟩
    have F7 := Lib.hid F7
    clear S11
    go_wp2_with fail
    refine (pick_any S12 ok (by omega) (F7.out _) 24 (by omega) (by omega) (by omega)).mono ?_
    rintro e w8 ⟨k8, k80, k81, rfl, S13⟩
    clear S12
    have b14 : w2.heap.size + 1 ≤ w8.heap.size := S13.sz 4 rfl
    have hKS := Lib.hid hks2
    clear hks2
    cases e8 : (k8 == 0)
    · obtain ⟨x0, x1, x2, x3, x4, x5, xz⟩ := facts3 (S13.cells 4 rfl)
      obtain ⟨y0, y1, y2, y3, y4, y5, yz⟩ := facts3 (S13.cells 5 rfl)
      obtain ⟨z0, z1, z2, z3, z4, z5, zz⟩ := facts3 (setCell_at4 (S13.cells 5 rfl) (.int .i64 T.t) (.int .i64 T.p) (.slice a' T.zs.length c'))
      have O2 := ownsRow_ints (S13.rows 2 rfl)
      have hcap := ownsRow_capD (S13.rows 2 rfl)
      have S14 : St w0 w8 (It.own lo7 w8.heap.size a7 ks :: It.own lo hi2 a' T.zs :: l) := (S13.add (It.own lo7 w8.heap.size a7 ks) (Nat.le_refl _) ⟨O2, fun p hp => (O2.1 p hp).2⟩).turn fun k hk => by
        simp only [List.mem_cons] at hk ⊢
        rcases hk with h | h | h
        · exact .inl h
        · exact .inr (.inr (.inr (.inr (.inl h))))
        · exact .inr (.inr (.inr (.inr (.inr (.inr (.inr h))))))
      have S15 := S14.set3Far (b := w.heap.size) ⟨.inr (by show w.heap.size + 1 ≤ lo7; omega), .inr (by show w.heap.size + 1 ≤ lo; omega), FL.out _ (Nat.le_refl _)⟩ hz (.int .i64 T.t) (.int .i64 T.p) (.slice a' T.zs.length c')
      clear S14 O2
      go_wp2_with fail
      refine bodyPost_ret (v := .tuple #[tabV T a' c', .slice a7 ks.length c7]) (by simp [results, Tryz.results5, go_sem, z0, z1, z2]) rfl ?_
      exact ⟨T, a', c', lo, _, ks, a7, c7, _, _, rfl, D0, by omega, fun x hx => by have := hKS.out x hx; omega, by omega, hcap, S15⟩
    · have S14 := ((S13.lit [100, -1] 3).push).drew
      simp only [List.map_cons, List.map_nil] at S14
      have F14 : Far (rd r a c cd (p7 + 1)) (It.bytes BH a cd :: It.own w8.heap.size (w8.heap.size + 1) (some ⟨w8.heap.size, 0, none⟩) [100, -1] :: It.row lo7 hi7 (.slice a7 ks.length c7) ks :: It.own lo hi2 a' T.zs :: It.box w2.heap.size #[.int .i64 T.t, .int .i64 T.p, .slice a' T.zs.length c'] 25 :: It.box w.heap.size #[.int .i64 0, .int .i64 0, .slice none 0 0] 25 :: l) :=
        ⟨(F7.out 0).1, .inr (by show r + 1 ≤ w8.heap.size; omega), (F7.out _).2⟩
      have FO : Hid (∀ q : Nat, Far (It.row lo7 hi7 (.slice a7 ks.length c7) ks) (rd r a c cd q :: It.bytes BH a cd :: It.own lo hi2 a' T.zs :: It.box w2.heap.size #[.int .i64 T.t, .int .i64 T.p, .slice a' T.zs.length c'] 25 :: It.box w.heap.size #[.int .i64 0, .int .i64 0, .slice none 0 0] 25 :: l)) :=
        Lib.hid fun q => ⟨.inl (by show r + 1 ≤ lo7; omega), .inl (by show BH ≤ lo7; omega), .inl (by show hi2 ≤ lo7; omega), .inl (by show w2.heap.size + 1 ≤ lo7; omega), .inl (by show w.heap.size + 1 ≤ lo7; omega), FL.out _ (by show w.heap.size ≤ lo7; omega)⟩
      obtain ⟨x0, x1, x2, x3, x4, x5, xz⟩ := facts3 (S13.cells 4 rfl)
      go_wp2_with fail
      go_region_law
        (first
          | (go_simp; go_at_call 18; refine (num_any S14 ok (by omega) F14 0 2 _ _ _ 2 _ rfl rfl (by simp) (by simp) (by omega)).mono ?_; rintro e w9 ⟨i, hi, rfl, S15⟩; have z15 : hi7 ≤ w9.heap.size := S15.sz 3 rfl; obtain ⟨v0, v1, v2, v3, v4, v5, vz⟩ := facts3 (S15.cells 5 rfl); obtain ⟨q0, q1, q2, q3, q4, q5, qz⟩ := facts3 (S15.cells 6 rfl))
          | (refine step_append_lies _ (by rfl) _ _ _ (by rfl) lo7 3 i0 _ 1 8 Tryz.underlying23 HI.out HZ0.out HZ1.out HZ2.out rfl (by omega) _ _ _ (by rfl) ((S15.rows 3 rfl).alloc _) ⟨w9.heap.size, 0, none⟩ 1 1 [.int .i64 (nth [100, -1] i)] (by rfl) (by rfl) (World.news_of_block (cs := #[.int .i64 (nth [100, -1] i)]) (t := 3) (fr := (0, 0)) (heap_alloc_new w9 _)) (by simp [Value.oneCell']) (by omega) (by unfold maxLen; omega) (by omega) (by simp; omega) (w9.heap.size + 1) (by simp) ?_; intro gg cap w10 hown4 hgrow4 hat4 hlt4; have S16 := (pull_row3 S15).append (FO.out _) (by omega) _ hown4 hgrow4; obtain ⟨u0, u1, u2, u3, u4, u5, uz⟩ := facts3 (S16.cells 5 rfl); obtain ⟨p0, p1, p2, p3, p4, p5, pz⟩ := facts3 (S16.cells 4 rfl)))
      all_goals
        obtain ⟨b1, b2⟩ := nth_all (P := fun x => -1 ≤ x ∧ x ≤ 100) (xs := [100, -1]) (by decide) hi
        generalize nth [100, -1] i = x at b1 b2 S16 ⊢
        obtain ⟨z0, z1, z2, z3, z4, z5, zz⟩ := facts3 (setCell_at4 (S16.cells 5 rfl) (.int .i64 T.t) (.int .i64 T.p) (.slice a' T.zs.length c'))
        have O2 := S16.rowInts 0 rfl
        have hcap : (ks ++ [x]).length ≤ cap := by rw [List.length_append]; exact ownsRow_capD (hown4)
        have S17 : St w0 w10 (It.own lo7 w10.heap.size (some ⟨gg, 0, none⟩) (ks ++ [x]) :: It.own lo hi2 a' T.zs :: l) := (S16.add (It.own lo7 w10.heap.size (some ⟨gg, 0, none⟩) (ks ++ [x])) (Nat.le_refl _) ⟨O2, fun p hp => (O2.1 p hp).2⟩).turn fun k hk => by
          simp only [List.mem_cons] at hk ⊢
          rcases hk with h | h | h
          · exact .inl h
          · exact .inr (.inr (.inr (.inr (.inl h))))
          · exact .inr (.inr (.inr (.inr (.inr (.inr (.inr h))))))
        have S18 := S17.set3Far (b := w.heap.size) ⟨.inr (by show w.heap.size + 1 ≤ lo7; omega), .inr (by show w.heap.size + 1 ≤ lo; omega), FL.out _ (Nat.le_refl _)⟩ hz (.int .i64 T.t) (.int .i64 T.p) (.slice a' T.zs.length c')
        clear O2 S17 S16 S15 S13 S14 hown4 hgrow4 hat4 hlt4 u0 u1 u2 u3 u4 u5 uz p0 p1 p2 p3 p4 p5 pz v0 v1 v2 v3 v4 v5 vz q0 q1 q2 q3 q4 q5 qz x0 x1 x2 x3 x4 x5 xz F14 FO F7 F4
        go_wp2
        refine bodyPost_ret (v := .tuple #[tabV T a' c', .slice (some ⟨gg, 0, none⟩) (ks.length + 1) cap]) (by simp [results, Tryz.results5, go_sem, z0, z1, z2]) rfl ?_
        refine ⟨T, a', c', lo, _, ks ++ [x], some ⟨gg, 0, none⟩, cap, _, _, by simp [List.length_append], D0, by simp; omega, fun y hy => ?_, by omega, hcap, S18⟩
        rcases List.mem_append.1 hy with h | h
        · have := hKS.out y h; omega
        · obtain rfl := List.mem_singleton.1 h; exact ⟨b1, b2⟩
theorem DrawFairAll_any {w0 w : World} {l : List It} {a : Option Addr} {c bh : Nat} {code : List Int} (S : St w0 w (It.bytes bh a code :: l)) (h : Came c code) :
    Calls Tryz.prog 5 #[.slice a code.length c] w fun e w' => ∃ (T : Tab) (a' : Option Addr) (c' lo hi : Nat) (ks : List Int) (a2 : Option Addr) (c2 lo2 hi2 : Nat), e = .returned (.tuple #[tabV T a' c', .slice a2 ks.length c2]) ∧ DrawnB T ∧ ks.length ≤ 101 ∧ (∀ x, x ∈ ks → -1 ≤ x ∧ x ≤ 100) ∧ w.heap.size ≤ lo ∧
      St w0 w' (It.own lo2 hi2 a2 ks :: It.own lo hi a' T.zs :: l) :=
  (DrawFairAllC_any S h).mono fun _ _ ⟨T, a', c', lo, hi, ks, a2, c2, lo2, hi2, h1, h2, h3, h4, h5, _, h7⟩ => ⟨T, a', c', lo, hi, ks, a2, c2, lo2, hi2, h1, h2, h3, h4, h5, h7⟩

end Go.Proofs.YtkdkdmjhhgllgaaGreatDoor

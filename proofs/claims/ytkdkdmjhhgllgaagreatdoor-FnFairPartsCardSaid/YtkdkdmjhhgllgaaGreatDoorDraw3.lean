/-
  What chapter 1's draws make: l1Fill.
-/
import Derived.Test.YtkdkdmjhhgllgaaGreatDoorSort
namespace Go.Proofs.YtkdkdmjhhgllgaaGreatDoor
open Go.RowKit

theorem rowInts {w : World} {base : Nat} {e : TypeId} {a : Option Addr} {m n c : Nat} {zs : List Int} (h : w.ownsRow base e 1 (.slice a m c) n (zs.map (Value.int .i64))) : OwnInts w base a zs := by
  have hm : m = n := by
    rcases h.2 with ⟨hv, h0⟩ | ⟨g, cap, cur, hv, _⟩
    · cases hv; exact h0.symm
    · cases hv; rfl
  subst hm
  exact ownsRow_ints h

theorem rowSet {w : World} {base : Nat} {e : TypeId} {b o m n c : Nat} {zs : List Int} (h : w.ownsRow base e 1 (.slice (some ⟨b, o, none⟩) m c) n (zs.map (Value.int .i64))) (i : Nat) (hi : i < zs.length) (x : Int) :
    (w.setCell ⟨b, o + i, none⟩ (.int .i64 x)).ownsRow base e 1 (.slice (some ⟨b, o, none⟩) m c) n ((zs.set i x).map (Value.int .i64)) := by
  obtain ⟨h1, h2⟩ := h
  refine ⟨by simpa using h1, ?_⟩
  rcases h2 with ⟨hv, _⟩ | ⟨g, cap, cur, hv, hb, hg, hn, hc, hs, ht⟩
  · cases hv
  · cases hv
    refine .inr ⟨b, c, cur.setIfInBounds (0 + i) (.int .i64 x), rfl, hb, setCell_at hg _ _, hn, hc, by simpa using hs, ?_⟩
    rw [Nat.zero_add, List.map_set, ← ht, Array.toList_setIfInBounds, List.take_set]

/-- A store into a row. -/
theorem St.store {w0 w : World} {l : List It} {lo hi b o m c : Nat} {zs : List Int} (h : St w0 w (It.row lo hi (.slice (some ⟨b, o, none⟩) m c) zs :: l)) (i : Nat) (hi' : i < zs.length) (hf : Far (It.row lo hi (.slice (some ⟨b, o, none⟩) m c) zs) l) (hlo : w0.heap.size ≤ lo) (x : Int) :
    St w0 (w.setCell ⟨b, o + i, none⟩ (.int .i64 x)) (It.row lo hi (.slice (some ⟨b, o, none⟩) m c) (zs.set i x) :: l) := by
  have h0 := (h.get 0 rfl : (It.row lo hi (.slice (some ⟨b, o, none⟩) m c) zs).P w)
  have hb := (h0.1.lt b rfl).1
  have hb2 := h0.2 b rfl
  refine h.write (row := some b) ⟨rfl, rfl, rfl, by simp [World.setCell], fun k _ hk => Below.heap_setCell w _ _ k (fun e => hk (by rw [e]))⟩ (fun k e => by cases e; exact ⟨hb, hb2⟩) hf hlo ?_ ⟨by rw [List.length_set]; exact rowSet h0.1 i hi' x, h0.2⟩
  have h3 : hi ≤ w.heap.size := h.sz 0 rfl
  show hi ≤ (w.setCell _ _).heap.size
  simpa [World.setCell] using h3

theorem St.rowInts {w0 w : World} {l : List It} {lo hi m c : Nat} {a : Option Addr} {xs : List Int} (h : St w0 w l) (n : Nat) (hi' : l[n]? = some (It.row lo hi (.slice a m c) xs)) : OwnInts w lo a xs := Go.Proofs.YtkdkdmjhhgllgaaGreatDoor.rowInts (h.rows n hi')

theorem St.rowLt {w0 w : World} {l : List It} {lo hi m c : Nat} {a : Option Addr} {zs : List Int} (h : St w0 w l) (k : Nat) (hm : l[k]? = some (It.row lo hi (.slice a m c) zs)) (h0 : 0 < zs.length) : lo < hi := by
  have hp := (h.get k hm : (It.row lo hi (.slice a m c) zs).P w)
  obtain ⟨b, o, rfl, _⟩ := (Go.Proofs.YtkdkdmjhhgllgaaGreatDoor.rowInts hp.1).2 h0
  have h1 := (hp.1.lt b rfl).1
  have h2 := hp.2 b rfl
  omega

/-- What slots hold: keys, free slots, tombs. -/
def SlotB (zs : List Int) : Prop := ∀ x ∈ zs, -2 ≤ x ∧ x ≤ 99
theorem SlotB.set {zs : List Int} {x : Int} (h : SlotB zs) (i : Nat) (h0 : -2 ≤ x) (h1 : x ≤ 99) : SlotB (zs.set i x) := by
  intro y hy
  rcases List.mem_or_eq_of_mem_set hy with h2 | rfl
  · exact h y h2
  · exact ⟨h0, h1⟩

theorem St.front {w0 w : World} {l : List It} {x : It} (h : St w0 w l) (hx : x ∈ l) : St w0 w (x :: l) :=
  h.turn fun j hj => by
    rcases List.mem_cons.1 hj with rfl | hj
    · exact hx
    · exact hj

set_option maxHeartbeats 4000000 in
set_option maxRecDepth 100000 in
theorem l1Fill_any {w0 w : World} {l : List It} {r bh : Nat} {a : Option Addr} {c p : Nat} {code : List Int} (S : St w0 w (rd r a c code p :: It.bytes bh a code :: l)) (ho : CodeOk code) (hr : w0.heap.size ≤ r) (hf : Far (rd r a c code p) (It.bytes bh a code :: l)) (hp : p ≤ 700000) :
    Calls Tryz.prog 99 #[.pointer (some ⟨r, 0, none⟩)] w fun e w' => ∃ (T : Tab) (a' : Option Addr) (c' lo p' : Nat), e = .returned (tabV T a' c') ∧ (1 ≤ T.zs.length ∧ T.zs.length ≤ 16) ∧ (0 ≤ T.t ∧ T.t ≤ 7) ∧ (0 ≤ T.p ∧ T.p ≤ 11) ∧ SlotB T.zs ∧
      p' ≤ p + 1000 ∧ w.heap.size ≤ lo ∧ St w0 w' (It.row lo w'.heap.size (.slice a' T.zs.length c') T.zs :: rd r a c code p' :: It.bytes bh a code :: l) := by
  have hrs : r + 1 ≤ w.heap.size := S.sz 0 rfl
  have hbh : bh ≤ w.heap.size := S.sz 1 rfl
  have FL : Hid (∀ i : It, w.heap.size ≤ i.lo → Far i l) := Lib.hid fun i h => Far.older S (fun j hj => List.mem_cons_of_mem _ (List.mem_cons_of_mem _ hj)) h
  have S1 := (S.alloc #[.int .i64 0, .int .i64 0, .slice none 0 0] 25).push
  have F1 := hf.push (p' := p) (x := It.box w.heap.size #[.int .i64 0, .int .i64 0, .slice none 0 0] 25) (.inl hrs)
  go_enter Tryz.func99, Tryz.ntmps99
  go_wp2_with fail
  refine (l1Empty_any S1 ho hr F1 (by omega)).mono ?_
  rintro e w1 ⟨n, t, q, a1, c1, lo1, rfl, n1, n2, ⟨t1, t2⟩, ⟨q1, q2⟩, hlo1, S2⟩
  rw [World.size_alloc] at hlo1
  have S3 := (S2.push.alloc #[.int .i64 t, .int .i64 q, .slice a1 n c1] 25).push
  have z1 : lo1 < w1.heap.size := S2.rowLt 0 rfl (by simp; omega)
  have F2 := (F1.push (p' := p + 3) (x := It.row lo1 w1.heap.size (.slice a1 n c1) (List.replicate n (-1))) (.inl (by show _ ≤ lo1; omega))).push (p' := p + 3) (x := It.box w1.heap.size #[.int .i64 t, .int .i64 q, .slice a1 n c1] 25) (.inl (by show _ ≤ w1.heap.size; omega))
  obtain ⟨x0, x1, x2, x3, x4, x5, xz⟩ := facts3 (S3.cells 2 rfl)
  go_wp2_with fail
  clear x0 x1 x2 x3 x4 x5 xz
  refine (pick_any S3 ho hr F2 _ (by omega) (by omega) (by omega)).mono ?_
  rintro e w2 ⟨k, k0, k1, rfl, S4⟩
  obtain ⟨m, rfl⟩ : ∃ m : Nat, k = m := ⟨k.toNat, by omega⟩
  go_wp2_with fail
  refine (l1Keys_any S4 ho hr (Far.same F2 _) (by omega) m (by omega)).mono ?_
  rintro e w3 ⟨xs, a3, c3, lo3, p3, rfl, xs1, xs2, hp3, hlo3, S5⟩
  go_wp2_with fail
  refine (l1Sort_any a3 c3 xs _ (by omega) (by exact S5.ints 0 rfl)).mono ?_
  rintro e w4 ⟨a4, c4, rfl, ho4, hb4⟩
  have S6 := (S5.below hb4).own ho4
  obtain ⟨x0, x1, x2, x3, x4, x5, xz⟩ := facts3 (S6.cells 4 rfl)
  have hks : (sortU xs).length ≤ 100 := sortTo_len xs 100
  have KS : Hid (∀ x ∈ sortU xs, 0 ≤ x ∧ x ≤ 99) := Lib.hid fun x hx => by
    obtain ⟨k, hk, rfl, _⟩ := mem_sortTo.1 hx
    omega
  have z3 : w1.heap.size + 1 ≤ w3.heap.size := S5.sz 3 rfl
  have S7 : St w0 w4 (rd r a c code p3 :: It.bytes bh a code :: It.row lo1 w1.heap.size (.slice a1 n c1) (List.replicate n (-1)) :: It.box w1.heap.size #[.int .i64 t, .int .i64 q, .slice a1 n c1] 25 :: It.box w.heap.size #[.int .i64 0, .int .i64 0, .slice none 0 0] 25 :: It.own w3.heap.size w4.heap.size a4 (sortU xs) :: l) :=
    S6.turn fun j hj => by
      simp only [List.mem_cons] at hj ⊢
      rcases hj with h | h | h | h | h | h | h
      · exact .inr (.inr (.inl h))
      · exact .inr (.inr (.inr (.inl h)))
      · exact .inr (.inr (.inr (.inr (.inr (.inl h)))))
      · exact .inr (.inr (.inr (.inr (.inl h))))
      · exact .inr (.inr (.inr (.inr (.inr (.inr (.inl h))))))
      · exact .inl h
      · exact .inr (.inr (.inr (.inr (.inr (.inr (.inr h))))))
  have FR : Hid (∀ (p' : Nat) (ys : List Int), Far (rd r a c code p') (It.bytes bh a code :: It.row lo1 w1.heap.size (.slice a1 n c1) ys :: It.box w1.heap.size #[.int .i64 t, .int .i64 q, .slice a1 n c1] 25 :: It.box w.heap.size #[.int .i64 0, .int .i64 0, .slice none 0 0] 25 :: It.own w3.heap.size w4.heap.size a4 (sortU xs) :: l)) :=
    Lib.hid fun p' ys => ⟨hf.1, .inr (by show r + 1 ≤ lo1; omega), .inr (by show r + 1 ≤ w1.heap.size; omega), .inr hrs, .inr (by show r + 1 ≤ w3.heap.size; omega), Far.same hf.2 p'⟩
  have FO : Hid (∀ (p' : Nat) (ys : List Int), Far (It.row lo1 w1.heap.size (.slice a1 n c1) ys) (rd r a c code p' :: It.bytes bh a code :: It.box w1.heap.size #[.int .i64 t, .int .i64 q, .slice a1 n c1] 25 :: It.box w.heap.size #[.int .i64 0, .int .i64 0, .slice none 0 0] 25 :: It.own w3.heap.size w4.heap.size a4 (sortU xs) :: l)) :=
    Lib.hid fun p' ys => ⟨.inl (by show r + 1 ≤ lo1; omega), .inl (by show bh ≤ lo1; omega), .inr (Nat.le_refl _), .inl (by show w.heap.size + 1 ≤ lo1; omega), .inr (by show w1.heap.size ≤ w3.heap.size; omega), FL.out _ (by show w.heap.size ≤ lo1; omega)⟩
  clear S1 S2 S3 S4 S5 S6 hb4 ho4
  go_wp2_with fail
  go_loopw [5, 6, 20] (fun _ _ z wr => ∃ (j : Nat) (ys : List Int) (p' : Nat), j ≤ (sortU xs).length ∧ z = .int .i64 j ∧ ys.length = n ∧ SlotB ys ∧ p' ≤ p3 + j ∧
      St w0 wr (rd r a c code p' :: It.bytes bh a code :: It.row lo1 w1.heap.size (.slice a1 n c1) ys :: It.box w1.heap.size #[.int .i64 t, .int .i64 q, .slice a1 n c1] 25 :: It.box w.heap.size #[.int .i64 0, .int .i64 0, .slice none 0 0] 25 :: It.own w3.heap.size w4.heap.size a4 (sortU xs) :: l)) (fun _ _ z _ => (sortU xs).length - (intOf z).toNat)
  case atStart => exact ⟨0, List.replicate n (-1), p3, Nat.zero_le _, rfl, by simp, fun x hx => by rw [List.eq_of_mem_replicate hx]; omega, by omega, S7⟩
  case round =>
    obtain ⟨j, ys, p', hj, rfl, hy, hys, hp', Sr⟩ := hrel
    have Y := Lib.hid hy
    have YS := Lib.hid hys
    clear hy hys S7 x0 x1 x2 x3 x4 x5 xz
    by_cases hlt : j < (sortU xs).length
    · obtain ⟨b4, o4, key, rfl, q4, X4⟩ := (Sr.ints 5 rfl).at hlt
      have hkey := KS.out key (by rw [← X4.out]; exact nth_all (P := fun x => x ∈ sortU xs) (fun _ h => h) hlt)
      obtain ⟨key0, key1⟩ := hkey
      obtain ⟨x0, x1, x2, x3, x4, x5, xz⟩ := facts3 (Sr.cells 3 rfl)
      go_wp2_with fail
      refine (pick_any Sr ho hr (FR.out _ _) _ (by omega) (by omega) (by omega)).mono ?_
      rintro e w6 ⟨k6, k60, k61, rfl, S8⟩
      obtain ⟨i, rfl⟩ : ∃ i : Nat, k6 = i := ⟨k6.toNat, by omega⟩
      have hi : i < ys.length := by rw [Y.out]; omega
      clear x0 x1 x2 x3 x4 x5 xz q4 Sr
      obtain ⟨x0, x1, x2, x3, x4, x5, xz⟩ := facts3 (S8.cells 3 rfl)
      have hown := S8.rowInts 2 rfl
      obtain ⟨b1, o1, rfl, hc1, hf1⟩ := hown.2 (by omega)
      have r1 := hc1 i hi
      have r2 := hf1 i hi
      obtain ⟨v, hv⟩ : ∃ v, ys[i]?.getD 0 = v := ⟨_, rfl⟩
      rw [hv] at r1
      clear hv hc1 hf1 hown
      have S9 := (S8.pull.store i hi (FO.out _ _) (by omega) key).push
      by_cases h0 : v < 0
      · go_wp2
        go_roundw
        case rel => exact ⟨j + 1, ys.set i key, p' + 1, by omega, by go_num, by simp [Y.out], YS.out.set i (by omega) key1, by omega, S9⟩
        case measure => simp [intOf]; omega
      · go_wp2
        go_roundw
        case rel => exact ⟨j + 1, ys, p' + 1, by omega, by go_num, Y.out, YS.out, by omega, S8⟩
        case measure => simp [intOf]; omega
    · obtain ⟨x0, x1, x2, x3, x4, x5, xz⟩ := facts3 (Sr.cells 3 rfl)
      have hp3' : p' ≤ p3 + 100 := by omega
      go_wp2_with fail
      clear hj hlt
      go_loopw [7, 44] (fun _ z wr => ∃ (i : Nat) (ys : List Int) (p' : Nat), i ≤ n ∧ z = .int .i64 i ∧ ys.length = n ∧ SlotB ys ∧ p' ≤ p3 + 100 + i ∧
          St w0 wr (rd r a c code p' :: It.bytes bh a code :: It.row lo1 w1.heap.size (.slice a1 n c1) ys :: It.box w1.heap.size #[.int .i64 t, .int .i64 q, .slice a1 n c1] 25 :: It.box w.heap.size #[.int .i64 0, .int .i64 0, .slice none 0 0] 25 :: It.own w3.heap.size w4.heap.size a4 (sortU xs) :: l)) (fun _ z _ => n - (intOf z).toNat)
      case atStart => exact ⟨0, ys, p', Nat.zero_le _, rfl, Y.out, YS.out, by omega, Sr⟩
      case round =>
        obtain ⟨i, ys2, p2, hi, rfl, hy2, hys2, hp2, Sq⟩ := hrel
        have Y2 := Lib.hid hy2
        have YS2 := Lib.hid hys2
        clear hy2 hys2 Sr x0 x1 x2 x3 x4 x5 xz
        by_cases hlt : i < n
        · have hi2 : i < ys2.length := by rw [Y2.out]; exact hlt
          obtain ⟨x0, x1, x2, x3, x4, x5, xz⟩ := facts3 (Sq.cells 3 rfl)
          have hown := Sq.rowInts 2 rfl
          obtain ⟨b1, o1, rfl, hc1, hf1⟩ := hown.2 (by omega)
          have r1 := hc1 i hi2
          obtain ⟨v, hv⟩ : ∃ v, ys2[i]?.getD 0 = v := ⟨_, rfl⟩
          rw [hv] at r1
          clear hv hc1 hf1 hown
          cases he : (v == -1)
          · go_wp2
            go_roundw
            case rel => exact ⟨i + 1, ys2, p2, by omega, by go_num, Y2.out, YS2.out, by omega, Sq⟩
            case measure => simp [intOf]; omega
          · go_wp2_with fail
            refine (pick_any Sq ho hr (FR.out _ _) 6 (by omega) (by omega) (by omega)).mono ?_
            rintro e w6 ⟨k6, k60, k61, rfl, S8⟩
            clear x0 x1 x2 x3 x4 x5 xz r1 Sq
            obtain ⟨x0, x1, x2, x3, x4, x5, xz⟩ := facts3 (S8.cells 3 rfl)
            have hown := S8.rowInts 2 rfl
            obtain ⟨b1', o1', e1, hc1, hf1⟩ := hown.2 (by omega)
            cases e1
            have r1 := hc1 i hi2
            have r2 := hf1 i hi2
            clear hc1 hf1 hown
            have S9 := (S8.pull.store i hi2 (FO.out _ _) (by omega) (-2)).push
            cases hk : (k6 == 0)
            · go_wp2
              go_roundw
              case rel => exact ⟨i + 1, ys2, p2 + 1, by omega, by go_num, Y2.out, YS2.out, by omega, S8⟩
              case measure => simp [intOf]; omega
            · go_wp2
              go_roundw
              case rel => exact ⟨i + 1, ys2.set i (-2), p2 + 1, by omega, by go_num, by simp [Y2.out], YS2.out.set i (by omega) (by omega), by omega, S9⟩
              case measure => simp [intOf]; omega
        · obtain ⟨x0, x1, x2, x3, x4, x5, xz⟩ := facts3 (Sq.cells 3 rfl)
          obtain ⟨y0, y1, y2, y3, y4, y5, yz⟩ := facts3 (Sq.cells 4 rfl)
          go_wp2
          refine bodyPost_ret (v := tbl t q a1 n c1) (by simp [results, Tryz.results99, go_sem, y0, y1, y2]) rfl ?_
          have T0 : St w0 wr (It.row lo1 w1.heap.size (.slice a1 n c1) ys2 :: rd r a c code p2 :: It.bytes bh a code :: l) := Sq.turn fun j hj => by
            simp only [List.mem_cons] at hj ⊢
            rcases hj with h | h | h | h
            · exact .inr (.inr (.inl h))
            · exact .inl h
            · exact .inr (.inl h)
            · exact .inr (.inr (.inr (.inr (.inr (.inr h)))))
          have hfar : Far (It.box w.heap.size #[] 0) (It.row lo1 w1.heap.size (.slice a1 n c1) ys2 :: rd r a c code p2 :: It.bytes bh a code :: l) := ⟨.inr (by show w.heap.size + 1 ≤ lo1; omega), .inl hrs, .inl hbh, FL.out _ (Nat.le_refl _)⟩
          have T1 := T0.set3Far hfar (by omega) (.int .i64 t) (.int .i64 q) (.slice a1 n c1)
          have T2 := (T1.turn (l' := rd r a c code p2 :: It.bytes bh a code :: l) (fun j hj => List.mem_cons_of_mem _ hj)).add (It.row lo1 _ (.slice a1 ys2.length c1) ys2) (Nat.le_refl _) ⟨by have h5 := T1.rows 0 rfl; have e5 := Y2.out; subst e5; exact h5, fun k e => by cases a1 with | none => cases e | some q => (cases e; exact ((T1.rows 0 rfl).lt _ rfl).2)⟩
          exact ⟨⟨t, q, ys2⟩, a1, c1, lo1, p2, by rw [← Y2.out], ⟨by rw [Y2.out]; omega, by rw [Y2.out]; omega⟩, ⟨t1, t2⟩, ⟨q1, q2⟩, YS2.out, by omega, by omega, T2⟩

end Go.Proofs.YtkdkdmjhhgllgaaGreatDoor

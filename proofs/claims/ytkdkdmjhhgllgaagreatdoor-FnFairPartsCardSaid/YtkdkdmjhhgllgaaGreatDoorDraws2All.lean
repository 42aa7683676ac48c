/-
  Fair tables: several texts as one.
-/
import Derived.Test.YtkdkdmjhhgllgaaGreatDoorFinds2All
import Derived.Test.YtkdkdmjhhgllgaaGreatDoorDrawn
import Derived.Test.YtkdkdmjhhgllgaaGreatDoorBase
import Derived.Test.YtkdkdmjhhgllgaaGreatDoorModel6All
import Derived.Test.YtkdkdmjhhgllgaaGreatDoorMath
import Derived.Test.YtkdkdmjhhgllgaaGreatDoorCopyRow
section
namespace Go.Proofs.YtkdkdmjhhgllgaaGreatDoor
open Go.RowKit

theorem place_lt {T : Tab} {key : Int} (h : 0 ≤ placeI T key) : placeI T key < T.zs.length := by
  cases hv : (validB T && inB key 0 99)
  · rw [placeI_no (.inl hv)] at h; omega
  · by_cases hf : 0 ≤ findI T key
    · rw [placeI_no (.inr hf)] at h; omega
    · obtain ⟨v1, _⟩ := asked_yes hv
      rw [placeI_yes hv (by omega)] at h ⊢
      unfold firstLow at h ⊢
      cases hq : (wayOf T key).find? fun k => decide (nth T.zs k.toNat < 0) with
      | none => rw [hq] at h; simp at h
      | some v =>
        have hm := List.mem_of_find?_eq_some hq
        obtain ⟨j, hj, e⟩ := List.getElem_of_mem hm
        obtain ⟨k, hk, hkl⟩ := way_nth T v1 key hj
        rw [nth, List.getElem?_eq_getElem hj, e] at hk
        simp at hk
        simp
        omega

theorem place_n (t q : Int) (ys : List Int) (a : Option Addr) (n c : Nat) (key : Int) (w : World) (hn : ys.length = n) (hx : n ≤ 100) (h1 : IntsAt w a ys) :
    Calls Tryz.prog 77 #[tbl t q a n c, .int .i64 key] w fun e w' => ∃ k : Int, e = .returned (.tuple #[.int .i64 k, .bool (decide (0 ≤ k))]) ∧ k < n ∧ Below w.heap.size w w' := by
  subst hn
  refine (specPlaceFor_any ⟨t, q, ys⟩ a c key w (by show ys.length ≤ _; omega) h1).mono ?_
  rintro e w' ⟨rfl, hb⟩
  refine ⟨_, rfl, ?_, hb⟩
  by_cases h : 0 ≤ placeI ⟨t, q, ys⟩ key
  · exact place_lt h
  · omega

set_option maxHeartbeats 8000000 in
set_option maxRecDepth 100000 in
theorem l2Made_any {w0 w : World} {l : List It} {r bh : Nat} {a : Option Addr} {c p : Nat} {code : List Int} (S : St w0 w (rd r a c code p :: It.bytes bh a code :: l)) (ho : CodeOk code) (hr : w0.heap.size ≤ r) (hf : Far (rd r a c code p) (It.bytes bh a code :: l)) (hp : p ≤ 600000) :
    Calls Tryz.prog 76 #[.pointer (some ⟨r, 0, none⟩)] w fun e w' => ∃ (T : Tab) (a' : Option Addr) (c' lo p' : Nat), e = .returned (tabV T a' c') ∧ DrawnB T ∧
      p' ≤ p + 1000 ∧ w.heap.size ≤ lo ∧ St w0 w' (It.own lo w'.heap.size a' T.zs :: rd r a c code p' :: It.bytes bh a code :: l) := by
  have hrs : r + 1 ≤ w.heap.size := S.sz 0 rfl
  have hbh : bh ≤ w.heap.size := S.sz 1 rfl
  have FL : Hid (∀ i : It, w.heap.size ≤ i.lo → Far i l) := Lib.hid fun i h => Far.older S (fun j hj => List.mem_cons_of_mem _ (List.mem_cons_of_mem _ hj)) h
  have S1 := (S.alloc #[.int .i64 0, .int .i64 0, .slice none 0 0] 25).push
  have F1 := hf.push (p' := p) (x := It.box w.heap.size #[.int .i64 0, .int .i64 0, .slice none 0 0] 25) (.inl hrs)
  go_enter Tryz.func76, Tryz.ntmps76
  go_wp2_with fail
  refine (l1Empty_any S1 ho hr F1 (by omega)).mono ?_
  rintro e w1 ⟨n, t, q, a1, c1, lo1, rfl, n1, n2, ⟨t1, t2⟩, ⟨q1, q2⟩, hlo1, S2⟩
  rw [World.size_alloc] at hlo1
  have S3 := (S2.push.alloc #[.int .i64 t, .int .i64 q, .slice a1 n c1] 25).push
  have z1 : lo1 < w1.heap.size := S2.rowLt 0 rfl (by simp; omega)
  have F2 := (F1.push (p' := p + 3) (x := It.row lo1 w1.heap.size (.slice a1 n c1) (List.replicate n (-1))) (.inl (by show _ ≤ lo1; omega))).push (p' := p + 3) (x := It.box w1.heap.size #[.int .i64 t, .int .i64 q, .slice a1 n c1] 25) (.inl (by show _ ≤ w1.heap.size; omega))
  obtain ⟨x0, x1, x2, x3, x4, x5, xz⟩ := facts3 (S3.cells 2 rfl)
  go_wp2_with fail
  clear x0 x1 x2 x3 x4 x5 xz
  refine (pick_any S3 ho hr F2 _ (by omega) (by omega) (by omega)).mono ?_
  rintro e w2 ⟨k, k0, k1, rfl, S4⟩
  obtain ⟨m, rfl⟩ : ∃ m : Nat, k = m := ⟨k.toNat, by omega⟩
  go_wp2_with fail
  refine (l1Keys_any S4 ho hr (Far.same F2 _) (by omega) m (by omega)).mono ?_
  rintro e w3 ⟨xs, a3, c3, lo3, p3, rfl, xs1, xs2, hp3, hlo3, S5⟩
  have KS := Lib.hid xs2
  clear xs2
  have z3 : w1.heap.size + 1 ≤ w3.heap.size := S5.sz 3 rfl
  have z4 : w1.heap.size + 1 ≤ lo3 := Nat.le_trans (S4.sz 2 rfl) hlo3
  have S7 : St w0 w3 (rd r a c code p3 :: It.bytes bh a code :: It.row lo1 w1.heap.size (.slice a1 n c1) (List.replicate n (-1)) :: It.box w1.heap.size #[.int .i64 t, .int .i64 q, .slice a1 n c1] 25 :: It.box w.heap.size #[.int .i64 0, .int .i64 0, .slice none 0 0] 25 :: It.own lo3 w3.heap.size a3 xs :: l) :=
    S5.turn fun j hj => by
      simp only [List.mem_cons] at hj ⊢
      rcases hj with h | h | h | h | h | h | h
      · exact .inr (.inl h)
      · exact .inr (.inr (.inl h))
      · exact .inr (.inr (.inr (.inr (.inl h))))
      · exact .inr (.inr (.inr (.inl h)))
      · exact .inr (.inr (.inr (.inr (.inr (.inl h)))))
      · exact .inl h
      · exact .inr (.inr (.inr (.inr (.inr (.inr h)))))
  have FR : Hid (∀ (p' : Nat) (ys : List Int), Far (rd r a c code p') (It.bytes bh a code :: It.row lo1 w1.heap.size (.slice a1 n c1) ys :: It.box w1.heap.size #[.int .i64 t, .int .i64 q, .slice a1 n c1] 25 :: It.box w.heap.size #[.int .i64 0, .int .i64 0, .slice none 0 0] 25 :: It.own lo3 w3.heap.size a3 xs :: l)) :=
    Lib.hid fun p' ys => ⟨hf.1, .inr (by show r + 1 ≤ lo1; omega), .inr (by show r + 1 ≤ w1.heap.size; omega), .inr hrs, .inr (by show r + 1 ≤ lo3; omega), Far.same hf.2 p'⟩
  have FO : Hid (∀ (p' : Nat) (ys : List Int), Far (It.row lo1 w1.heap.size (.slice a1 n c1) ys) (rd r a c code p' :: It.bytes bh a code :: It.box w1.heap.size #[.int .i64 t, .int .i64 q, .slice a1 n c1] 25 :: It.box w.heap.size #[.int .i64 0, .int .i64 0, .slice none 0 0] 25 :: It.own lo3 w3.heap.size a3 xs :: l)) :=
    Lib.hid fun p' ys => ⟨.inl (by show r + 1 ≤ lo1; omega), .inl (by show bh ≤ lo1; omega), .inr (Nat.le_refl _), .inl (by show w.heap.size + 1 ≤ lo1; omega), .inr (by show w1.heap.size ≤ lo3; omega), FL.out _ (by show w.heap.size ≤ lo1; omega)⟩
  have DONE : Hid (∀ (wr wf : World) (ys : List Int) (p' : Nat), ys.length = n → SlotB ys → p' ≤ p + 1000 →
      St w0 wr (rd r a c code p' :: It.bytes bh a code :: It.row lo1 w1.heap.size (.slice a1 n c1) ys :: It.box w1.heap.size #[.int .i64 t, .int .i64 q, .slice a1 n c1] 25 :: It.box w.heap.size #[.int .i64 0, .int .i64 0, .slice none 0 0] 25 :: It.own lo3 w3.heap.size a3 xs :: l) →
      wf = ((wr.setCell ⟨w.heap.size, 0, none⟩ (.int .i64 t)).setCell ⟨w.heap.size, 1, none⟩ (.int .i64 q)).setCell ⟨w.heap.size, 2, none⟩ (.slice a1 n c1) →
      ∃ (T : Tab) (a' : Option Addr) (c' lo p' : Nat), Ending.returned (tbl t q a1 n c1) = .returned (tabV T a' c') ∧ DrawnB T ∧ p' ≤ p + 1000 ∧ w.heap.size ≤ lo ∧ St w0 wf (It.own lo wf.heap.size a' T.zs :: rd r a c code p' :: It.bytes bh a code :: l)) := Lib.hid (by
    intro wr wf ys p' hy hys hp' Sq hwf
    have T0 : St w0 wr (rd r a c code p' :: It.bytes bh a code :: It.box w1.heap.size #[.int .i64 t, .int .i64 q, .slice a1 n c1] 25 :: It.row lo1 w1.heap.size (.slice a1 n c1) ys :: It.box w.heap.size #[.int .i64 0, .int .i64 0, .slice none 0 0] 25 :: l) := Sq.turn fun j hj => by
      simp only [List.mem_cons] at hj ⊢
      rcases hj with h | h | h | h | h | h
      · exact .inl h
      · exact .inr (.inl h)
      · exact .inr (.inr (.inr (.inl h)))
      · exact .inr (.inr (.inl h))
      · exact .inr (.inr (.inr (.inr (.inl h))))
      · exact .inr (.inr (.inr (.inr (.inr (.inr h)))))
    exact ⟨⟨t, q, ys⟩, a1, c1, lo1, p', by subst hy; rfl, drawn_of (by show 1 ≤ ys.length; omega) (by show ys.length ≤ 17; omega) (by show -1 ≤ t; omega) (by show t ≤ 16; omega) (by show -1 ≤ q; omega) (by show q ≤ 16; omega) (fun x hx => by have := hys x hx; omega), hp', by omega, some_close T0 hrs hbh FL.out hlo1 (by omega) _ _ _ _ hwf⟩)
  clear S1 S2 S3 S4 S5 F1 F2
  go_wp2_with fail
  go_loopw [5, 6, 7, 20] (fun _ _ _ z wr => ∃ (j : Nat) (ys : List Int) (p' : Nat), j ≤ xs.length ∧ z = .int .i64 j ∧ ys.length = n ∧ SlotB ys ∧ p' ≤ p3 ∧
      St w0 wr (rd r a c code p' :: It.bytes bh a code :: It.row lo1 w1.heap.size (.slice a1 n c1) ys :: It.box w1.heap.size #[.int .i64 t, .int .i64 q, .slice a1 n c1] 25 :: It.box w.heap.size #[.int .i64 0, .int .i64 0, .slice none 0 0] 25 :: It.own lo3 w3.heap.size a3 xs :: l)) (fun _ _ _ z _ => xs.length - (intOf z).toNat)
  case atStart => exact ⟨0, List.replicate n (-1), p3, Nat.zero_le _, rfl, by simp, fun x hx => by rw [List.eq_of_mem_replicate hx]; omega, Nat.le_refl _, S7⟩
  case round =>
    obtain ⟨j, ys, p', hj, rfl, hy, hys, hp', Sr⟩ := hrel
    have Y := Lib.hid hy
    have YS := Lib.hid hys
    clear hy hys S7
    by_cases hlt : j < xs.length
    · obtain ⟨b4, o4, key, rfl, q4, X4⟩ := (Sr.ints 5 rfl).at hlt
      have hkey := KS.out key (by rw [← X4.out]; exact nth_all (P := fun x => x ∈ xs) (fun _ h => h) hlt)
      obtain ⟨key0, key1⟩ := hkey
      obtain ⟨x0, x1, x2, x3, x4, x5, xz⟩ := facts3 (Sr.cells 3 rfl)
      go_wp2_with fail
      refine (place_n t q ys a1 n c1 key _ Y.out (by omega) (by exact (Sr.rowInts 2 rfl).ints)).mono ?_
      rintro e w6 ⟨k6, rfl, k61, hb6⟩
      have S8 := Sr.below hb6
      clear x0 x1 x2 x3 x4 x5 xz q4 Sr hb6
      by_cases h0 : 0 ≤ k6
      · obtain ⟨i, rfl⟩ : ∃ i : Nat, k6 = i := ⟨k6.toNat, by omega⟩
        have hi : i < ys.length := by rw [Y.out]; omega
        obtain ⟨x0, x1, x2, x3, x4, x5, xz⟩ := facts3 (S8.cells 3 rfl)
        have hown := S8.rowInts 2 rfl
        obtain ⟨b1, o1, rfl, hc1, hf1⟩ := hown.2 (by omega)
        have r1 := hc1 i hi
        have r2 := hf1 i hi
        obtain ⟨v, hv⟩ : ∃ v, ys[i]?.getD 0 = v := ⟨_, rfl⟩
        rw [hv] at r1
        clear hv hc1 hf1 hown
        have d : decide ((0 : Int) ≤ (i : Int)) = true := decide_eq_true h0
        have S9 := (S8.pull.store i hi (FO.out _ _) (by omega) key).push
        go_wp2
        go_roundw
        case rel => exact ⟨j + 1, ys.set i key, p', by omega, by go_num, by simp [Y.out], YS.out.set i (by omega) key1, hp', S9⟩
        case measure => simp [intOf]; omega
      · have d : decide (0 ≤ k6) = false := decide_eq_false h0
        go_wp2
        go_roundw
        case rel => exact ⟨j + 1, ys, p', by omega, by go_num, Y.out, YS.out, hp', S8⟩
        case measure => simp [intOf]; omega
    · go_wp2_with fail
      refine (pick_any Sr ho hr (FR.out _ _) 2 (by omega) (by omega) (by omega)).mono ?_
      rintro e w5 ⟨k5, k50, k51, rfl, S5⟩
      clear Sr hj hlt
      obtain ⟨x0, x1, x2, x3, x4, x5, xz⟩ := facts3 (S5.cells 3 rfl)
      cases e5 : (k5 == 0)
      · obtain ⟨y0, y1, y2, y3, y4, y5, yz⟩ := facts3 (S5.cells 4 rfl)
        go_wp2
        refine bodyPost_ret (v := tbl t q a1 n c1) (by simp [results, Tryz.results76, go_sem, y0, y1, y2]) rfl ?_
        exact DONE.out _ _ ys (p' + 1) Y.out YS.out (by omega) S5 rfl
      · go_wp2_with fail
        go_loopw [8, 43] (fun _ z wr => ∃ (i : Nat) (ys : List Int) (p' : Nat), i ≤ n ∧ z = .int .i64 i ∧ ys.length = n ∧ SlotB ys ∧ p' ≤ p3 + 1 + i ∧
            St w0 wr (rd r a c code p' :: It.bytes bh a code :: It.row lo1 w1.heap.size (.slice a1 n c1) ys :: It.box w1.heap.size #[.int .i64 t, .int .i64 q, .slice a1 n c1] 25 :: It.box w.heap.size #[.int .i64 0, .int .i64 0, .slice none 0 0] 25 :: It.own lo3 w3.heap.size a3 xs :: l)) (fun _ z _ => n - (intOf z).toNat)
        case atStart => exact ⟨0, ys, p' + 1, Nat.zero_le _, rfl, Y.out, YS.out, by omega, S5⟩
        case round =>
          obtain ⟨i, ys2, p2, hi, rfl, hy2, hys2, hp2, Sq⟩ := hrel
          have Y2 := Lib.hid hy2
          have YS2 := Lib.hid hys2
          clear hy2 hys2 S5 x0 x1 x2 x3 x4 x5 xz
          by_cases hlt : i < n
          · have hi2 : i < ys2.length := by rw [Y2.out]; exact hlt
            obtain ⟨x0, x1, x2, x3, x4, x5, xz⟩ := facts3 (Sq.cells 3 rfl)
            have hown := Sq.rowInts 2 rfl
            obtain ⟨b1, o1, rfl, hc1, hf1⟩ := hown.2 (by omega)
            have r1 := hc1 i hi2
            obtain ⟨v, hv⟩ : ∃ v, ys2[i]?.getD 0 = v := ⟨_, rfl⟩
            rw [hv] at r1
            clear hv hc1 hf1 hown
            cases he : decide (0 ≤ v)
            · go_wp2
              go_roundw
              case rel => exact ⟨i + 1, ys2, p2, by omega, by go_num, Y2.out, YS2.out, by omega, Sq⟩
              case measure => simp [intOf]; omega
            · go_wp2_with fail
              refine (pick_any Sq ho hr (FR.out _ _) 5 (by omega) (by omega) (by omega)).mono ?_
              rintro e w6 ⟨k6, k60, k61, rfl, S8⟩
              clear x0 x1 x2 x3 x4 x5 xz r1 Sq
              obtain ⟨x0, x1, x2, x3, x4, x5, xz⟩ := facts3 (S8.cells 3 rfl)
              have hown := S8.rowInts 2 rfl
              obtain ⟨b1', o1', e1, hc1, hf1⟩ := hown.2 (by omega)
              cases e1
              have r1 := hc1 i hi2
              have r2 := hf1 i hi2
              clear hc1 hf1 hown
              have S9 := (S8.pull.store i hi2 (FO.out _ _) (by omega) (-2)).push
              cases hk : (k6 == 0)
              · go_wp2
                go_roundw
                case rel => exact ⟨i + 1, ys2, p2 + 1, by omega, by go_num, Y2.out, YS2.out, by omega, S8⟩
                case measure => simp [intOf]; omega
              · go_wp2
                go_roundw
                case rel => exact ⟨i + 1, ys2.set i (-2), p2 + 1, by omega, by go_num, by simp [Y2.out], YS2.out.set i (by omega) (by omega), by omega, S9⟩
                case measure => simp [intOf]; omega
          · obtain ⟨x0, x1, x2, x3, x4, x5, xz⟩ := facts3 (Sq.cells 3 rfl)
            obtain ⟨y0, y1, y2, y3, y4, y5, yz⟩ := facts3 (Sq.cells 4 rfl)
            go_wp2
            refine bodyPost_ret (v := tbl t q a1 n c1) (by simp [results, Tryz.results76, go_sem, y0, y1, y2]) rfl ?_
            exact DONE.out _ _ ys2 p2 Y2.out YS2.out (by omega) Sq rfl

end Go.Proofs.YtkdkdmjhhgllgaaGreatDoor
end

section
namespace Go.Proofs.YtkdkdmjhhgllgaaGreatDoor
open Go.RowKit

set_option maxHeartbeats 2000000 in
set_option maxRecDepth 100000 in
theorem l2Some_any {w0 w : World} {l : List It} {r bh : Nat} {a : Option Addr} {c p : Nat} {code : List Int} (S : St w0 w (rd r a c code p :: It.bytes bh a code :: l)) (ho : CodeOk code) (hr : w0.heap.size ≤ r) (hf : Far (rd r a c code p) (It.bytes bh a code :: l)) (hp : p ≤ 500000) :
    Calls Tryz.prog 42 #[.pointer (some ⟨r, 0, none⟩)] w fun e w' => ∃ (T : Tab) (a' : Option Addr) (c' lo hi p' : Nat), e = .returned (tabV T a' c') ∧ DrawnB T ∧
      p' ≤ p + 3000 ∧ w.heap.size + 1 ≤ lo ∧ St w0 w' (It.own lo hi a' T.zs :: rd r a c code p' :: It.bytes bh a code :: l) := by
  have hrs : r + 1 ≤ w.heap.size := S.sz 0 rfl
  have hbh : bh ≤ w.heap.size := S.sz 1 rfl
  have hz := S.size
  have FL : Hid (∀ i : It, w.heap.size ≤ i.lo → Far i l) := Lib.hid fun i h => Far.older S (fun j hj => List.mem_cons_of_mem _ (List.mem_cons_of_mem _ hj)) h
  have S1 := (S.alloc #[.int .i64 0, .int .i64 0, .slice none 0 0] 25).push
  have F1 := hf.push (p' := p) (x := It.box w.heap.size #[.int .i64 0, .int .i64 0, .slice none 0 0] 25) (.inl hrs)
  have DONE : Hid (∀ (w3 : World) (T : Tab) (a' : Option Addr) (c' lo p' : Nat), DrawnB T → p' ≤ p + 3000 → w.heap.size + 1 ≤ lo →
      St w0 w3 (It.own lo w3.heap.size a' T.zs :: rd r a c code p' :: It.bytes bh a code :: It.box w.heap.size #[.int .i64 0, .int .i64 0, .slice none 0 0] 25 :: l) →
      ∃ (T2 : Tab) (a2 : Option Addr) (c2 lo hi p' : Nat), Ending.returned (tabV T a' c') = .returned (tabV T2 a2 c2) ∧ DrawnB T2 ∧ p' ≤ p + 3000 ∧ w.heap.size + 1 ≤ lo ∧
        St w0 (((w3.setCell ⟨w.heap.size, 0, none⟩ (.int .i64 T.t)).setCell ⟨w.heap.size, 1, none⟩ (.int .i64 T.p)).setCell ⟨w.heap.size, 2, none⟩ (.slice a' T.zs.length c')) (It.own lo hi a2 T2.zs :: rd r a c code p' :: It.bytes bh a code :: l)) := Lib.hid (by
    intro w3 T a' c' lo p' hT hp' hlo S3
    have S4 : St w0 w3 (It.own lo w3.heap.size a' T.zs :: rd r a c code p' :: It.bytes bh a code :: l) := S3.turn fun i hi => by
      simp only [List.mem_cons] at hi ⊢
      rcases hi with h | h | h | h
      · exact .inl h
      · exact .inr (.inl h)
      · exact .inr (.inr (.inl h))
      · exact .inr (.inr (.inr (.inr h)))
    exact ⟨T, a', c', lo, _, p', rfl, hT, hp', hlo, S4.set3Far ⟨.inr (by show w.heap.size + 1 ≤ lo; omega), .inl hrs, .inl hbh, FL.out _ (Nat.le_refl _)⟩ hz _ _ _⟩)
  go_enter Tryz.func42, Tryz.ntmps42
  go_wp2_with fail
  refine (pick_any S1 ho hr F1 5 (by omega) (by omega) (by omega)).mono ?_
  rintro e w2 ⟨k, k0, k1, rfl, S2⟩
  have z2 : w.heap.size + 1 ≤ w2.heap.size := S2.sz 2 rfl
  cases e0 : (k == 0)
  · go_wp2_with fail
    refine (l2Made_any S2 ho hr (Far.same F1 _) (by omega)).mono ?_
    rintro e w3 ⟨T, a', c', lo, p', rfl, hT, hp', hlo, S3⟩
    obtain ⟨x0, x1, x2, x3, x4, x5, xz⟩ := facts3 (S3.cells 3 rfl)
    go_wp2
    refine bodyPost_ret (v := tabV T a' c') (by simp [results, Tryz.results42, go_sem, x0, x1, x2]) rfl ?_
    exact DONE.out w3 T a' c' lo p' hT (by omega) (by omega) S3
  · go_wp2_with fail
    refine (l1Some_any S2 ho hr (Far.same F1 _) (by omega)).mono ?_
    rintro e w3 ⟨T, a', c', lo, p', rfl, hT, hp', hlo, S3⟩
    obtain ⟨x0, x1, x2, x3, x4, x5, xz⟩ := facts3 (S3.cells 3 rfl)
    go_wp2
    refine bodyPost_ret (v := tabV T a' c') (by simp [results, Tryz.results42, go_sem, x0, x1, x2]) rfl ?_
    exact DONE.out w3 T a' c' lo p' hT (by omega) (by omega) S3

end Go.Proofs.YtkdkdmjhhgllgaaGreatDoor
end

section
namespace Go.Proofs.YtkdkdmjhhgllgaaGreatDoor
open Go.RowKit

theorem drawn_fput {t q : Int} {zs : List Int} {key : Int} (hd : DrawnB ⟨t, q, zs⟩) (hok : fputOk ⟨t, q, zs⟩ key = true) : DrawnB ⟨t, q, fputZ ⟨t, q, zs⟩ key⟩ := by
  have F := fput_says hok
  have hl := fputZ_len ⟨t, q, zs⟩ key
  refine ⟨by show 1 ≤ (fputZ _ _).length ∧ (fputZ _ _).length ≤ 17; rw [hl]; exact hd.len, hd.t, hd.p, fun x hx => ?_⟩
  obtain ⟨i, hi, e⟩ := mem_nth hx
  have := valid_slot F.val2 (i := i) hi
  have e2 : nth (tab ⟨t, q, zs⟩ (fputZ ⟨t, q, zs⟩ key)).zs i = x := e
  rw [e2] at this
  omega

set_option maxHeartbeats 8000000 in
set_option maxRecDepth 100000 in
theorem l6Fair_any {w0 w : World} {l : List It} {r bh : Nat} {a : Option Addr} {c p : Nat} {code : List Int} (S : St w0 w (rd r a c code p :: It.bytes bh a code :: l)) (ho : CodeOk code) (hr : w0.heap.size ≤ r) (hf : Far (rd r a c code p) (It.bytes bh a code :: l)) (hp : p ≤ 600000) :
    Calls Tryz.prog 44 #[.pointer (some ⟨r, 0, none⟩)] w fun e w' => ∃ (T : Tab) (a' : Option Addr) (c' lo hi p' : Nat), e = .returned (tabV T a' c') ∧ DrawnB T ∧
      p' ≤ p + 1000 ∧ w.heap.size + 1 ≤ lo ∧ St w0 w' (It.own lo hi a' T.zs :: rd r a c code p' :: It.bytes bh a code :: l) := by
  have hrs : r + 1 ≤ w.heap.size := S.sz 0 rfl
  have hbh : bh ≤ w.heap.size := S.sz 1 rfl
  have hz := S.size
  have FL : Hid (∀ i : It, w.heap.size ≤ i.lo → Far i l) := Lib.hid fun i h => Far.older S (fun j hj => List.mem_cons_of_mem _ (List.mem_cons_of_mem _ hj)) h
  have FK : Hid (∀ i : It, i.hi ≤ w.heap.size → i.lo = w.heap.size → Far i l) := Lib.hid fun i _ h => Far.older S (fun j hj => List.mem_cons_of_mem _ (List.mem_cons_of_mem _ hj)) (by omega)
  have S1 := (S.alloc #[.int .i64 0, .int .i64 0, .slice none 0 0] 25).push
  have F1 := hf.push (p' := p) (x := It.box w.heap.size #[.int .i64 0, .int .i64 0, .slice none 0 0] 25) (.inl hrs)
  go_enter Tryz.func44, Tryz.ntmps44
  go_wp2_with fail
  refine (l1Empty_any S1 ho hr F1 (by omega)).mono ?_
  rintro e w1 ⟨n, t, q, a1, c1, lo1, rfl, n1, n2, ⟨t1, t2⟩, ⟨q1, q2⟩, hlo1, S2⟩
  rw [World.size_alloc] at hlo1
  have R1 := S2.rowInts 0 rfl
  have z1 : lo1 < w1.heap.size := S2.rowLt 0 rfl (by simp; omega)
  have S2o : St w0 w1 (It.own lo1 w1.heap.size a1 (List.replicate n (-1)) :: rd r a c code (p + 3) :: It.bytes bh a code :: It.box w.heap.size #[.int .i64 0, .int .i64 0, .slice none 0 0] 25 :: l) :=
    (S2.add (It.own lo1 w1.heap.size a1 (List.replicate n (-1))) (Nat.le_refl _) ⟨R1, fun p hp => (R1.1 p hp).2⟩).turn fun i hi => by
      simp only [List.mem_cons] at hi ⊢
      rcases hi with h | h | h | h | h
      · exact .inl h
      · exact .inr (.inr (.inl h))
      · exact .inr (.inr (.inr (.inl h)))
      · exact .inr (.inr (.inr (.inr (.inl h))))
      · exact .inr (.inr (.inr (.inr (.inr h))))
  have S3 := (S2o.push.alloc #[.int .i64 t, .int .i64 q, .slice a1 n c1] 25).push
  have F2 := (F1.push (p' := p + 3) (x := It.own lo1 w1.heap.size a1 (List.replicate n (-1))) (.inl (by show _ ≤ lo1; omega))).push (p' := p + 3) (x := It.box w1.heap.size #[.int .i64 t, .int .i64 q, .slice a1 n c1] 25) (.inl (by show _ ≤ w1.heap.size; omega))
  obtain ⟨x0, x1, x2, x3, x4, x5, xz⟩ := facts3 (S3.cells 2 rfl)
  go_wp2_with fail
  clear x0 x1 x2 x3 x4 x5 xz
  refine (pick_any S3 ho hr F2 _ (by omega) (by omega) (by omega)).mono ?_
  rintro e w2 ⟨k, k0, k1, rfl, S4⟩
  obtain ⟨m, rfl⟩ : ∃ m : Nat, k = m := ⟨k.toNat, by omega⟩
  go_wp2_with fail
  refine (l1Keys_any S4 ho hr (Far.same F2 _) (by omega) m (by omega)).mono ?_
  rintro e w3 ⟨xs, a3, c3, lo3, p3, rfl, xs1, xs2, hp3, hlo3, S5⟩
  have z4 : w1.heap.size + 1 ≤ lo3 := Nat.le_trans (S4.sz 2 rfl) hlo3
  have z5 : w1.heap.size + 1 ≤ w3.heap.size := S5.sz 3 rfl
  have S7 : St w0 w3 (rd r a c code p3 :: It.bytes bh a code :: It.box w1.heap.size #[.int .i64 t, .int .i64 q, .slice a1 n c1] 25 :: It.own lo1 w1.heap.size a1 (List.replicate n (-1)) :: It.box w.heap.size #[.int .i64 0, .int .i64 0, .slice none 0 0] 25 :: It.own lo3 w3.heap.size a3 xs :: l) :=
    S5.turn fun j hj => by
      simp only [List.mem_cons] at hj ⊢
      rcases hj with h | h | h | h | h | h | h
      · exact .inr (.inl h)
      · exact .inr (.inr (.inl h))
      · exact .inr (.inr (.inr (.inl h)))
      · exact .inr (.inr (.inr (.inr (.inl h))))
      · exact .inr (.inr (.inr (.inr (.inr (.inl h)))))
      · exact .inl h
      · exact .inr (.inr (.inr (.inr (.inr (.inr h)))))
  have D0 : DrawnB ⟨t, q, List.replicate n (-1)⟩ := drawn_of (by simp; omega) (by simp; omega) (by show -1 ≤ t; omega) (by show t ≤ 16; omega) (by show -1 ≤ q; omega) (by show q ≤ 16; omega) (fun x hx => by rw [List.eq_of_mem_replicate hx]; omega)
  clear S1 S2 S2o S3 S4 S5 F1 F2 R1
  go_wp2_with fail
  go_loopw [5, 6, 7, 19] (fun _ _ _ z wr => ∃ (j lo hi : Nat) (aj : Option Addr) (cj : Nat) (zs : List Int), j ≤ xs.length ∧ z = .int .i64 j ∧ zs.length = n ∧ DrawnB ⟨t, q, zs⟩ ∧ w.heap.size + 1 ≤ lo ∧ (hi ≤ w1.heap.size ∨ w1.heap.size + 1 ≤ lo) ∧ w3.heap.size ≤ wr.heap.size ∧
      St w0 wr (rd r a c code p3 :: It.bytes bh a code :: It.box w1.heap.size #[.int .i64 t, .int .i64 q, .slice aj n cj] 25 :: It.own lo hi aj zs :: It.box w.heap.size #[.int .i64 0, .int .i64 0, .slice none 0 0] 25 :: It.own lo3 w3.heap.size a3 xs :: l)) (fun _ _ _ z _ => xs.length - (intOf z).toNat)
  case atStart => exact ⟨0, lo1, w1.heap.size, a1, c1, _, Nat.zero_le _, rfl, by simp, D0, hlo1, .inl (Nat.le_refl _), Nat.le_refl _, S7⟩
  case round =>
    obtain ⟨j, lo, hi, aj, cj, zs, hj, rfl, hy, hdr, hlo, hor, hzr, Sr⟩ := hrel
    clear S7 D0
    by_cases hlt : j < xs.length
    · obtain ⟨b4, o4, key, rfl, q4, X4⟩ := (Sr.ints 5 rfl).at hlt
      obtain ⟨x0, x1, x2, x3, x4, x5, xz⟩ := facts3 (Sr.cells 2 rfl)
      have FP : Hid (Calls Tryz.prog 78 #[.agg #[.int .i64 t, .int .i64 q, .slice aj n cj], .int .i64 key] wr (TabRes (fputT ⟨t, q, zs⟩ key) (fputOk ⟨t, q, zs⟩ key) wr)) := Lib.hid (by
        have := specFairPut_any ⟨t, q, zs⟩ aj cj key wr (by show zs.length ≤ _; omega) (Sr.ints 3 rfl)
        unfold tabV at this
        simp only [hy] at this
        exact this)
      have HUT := Lib.hid (show fputT ⟨t, q, zs⟩ key = if fputOk ⟨t, q, zs⟩ key then tab ⟨t, q, zs⟩ (fputZ ⟨t, q, zs⟩ key) else ⟨0, 0, []⟩ from rfl)
      have HLZ : Hid ((fputZ ⟨t, q, zs⟩ key).length = n) := Lib.hid (by rw [fputZ_len]; exact hy)
      have HDZ := Lib.hid fun h => drawn_fput (key := key) hdr h
      have HY := Lib.hid hy
      have HDR := Lib.hid hdr
      clear hy hdr X4
      cases hok : fputOk ⟨t, q, zs⟩ key
      · rw [hok] at FP HUT
        rw [if_neg (by simp)] at HUT
        rw [HUT.out] at FP
        clear HUT HLZ HDZ hok
        go_wp2_with fail
        clear x0 x1 x2 x3 x4 x5 xz q4
        refine FP.out.mono ?_
        rintro e w6 ⟨a6, c6, rfl, ho6, hb6⟩
        have z6 := hb6.size
        have S8 := (Sr.below hb6).below ((Below.refl _ _).alloc (Nat.le_refl _) (.cells #[.int .i64 0, .int .i64 0, .slice a6 0 c6] 25))
        clear Sr hb6 ho6
        go_wp2
        go_roundw
        case rel => exact ⟨j + 1, lo, hi, aj, cj, zs, by omega, by go_num, HY.out, HDR.out, hlo, hor, by simp; omega, S8⟩
        case measure => simp [intOf]; omega
      · have D1 := Lib.hid (HDZ.out hok)
        rw [hok] at FP HUT
        rw [if_pos rfl] at HUT
        rw [HUT.out] at FP
        clear HUT HDZ hok
        generalize fputZ ⟨t, q, zs⟩ key = zt at FP HLZ D1
        have FP2 : Hid (Calls Tryz.prog 78 #[.agg #[.int .i64 t, .int .i64 q, .slice aj n cj], .int .i64 key] wr fun e w' => ∃ a1 c1, e = .returned (.tuple #[.agg #[.int .i64 t, .int .i64 q, .slice a1 n c1], .bool true]) ∧ OwnInts w' wr.heap.size a1 zt ∧ Below wr.heap.size wr w') := Lib.hid (FP.out.mono (by
          rintro e w' ⟨a1, c1, rfl, ho, hb⟩
          refine ⟨a1, c1, ?_, ho, hb⟩
          show Ending.returned (.tuple #[.agg #[.int .i64 t, .int .i64 q, .slice a1 zt.length c1], .bool true]) = _
          rw [HLZ.out]))
        clear FP
        go_wp2_with fail
        clear x0 x1 x2 x3 x4 x5 xz q4
        refine FP2.out.mono ?_
        rintro e w6 ⟨a6, c6, rfl, ho6, hb6⟩
        have z6 := hb6.size
        have S8 := ((Sr.below hb6).add (It.own wr.heap.size w6.heap.size a6 zt) (Nat.le_refl _) ⟨ho6, fun p hp => (ho6.1 p hp).2⟩).alloc #[.int .i64 t, .int .i64 q, .slice a6 n c6] 25
        clear Sr hb6 ho6 FP2
        obtain ⟨x0, x1, x2, x3, x4, x5, xz⟩ := facts3 (S8.cells 4 rfl)
        obtain ⟨y0, y1, y2, y3, y4, y5, yz⟩ := facts3 (S8.cells 0 rfl)
        have S9 : St w0 _ (rd r a c code p3 :: It.bytes bh a code :: It.box w1.heap.size #[.int .i64 t, .int .i64 q, .slice aj n cj] 25 :: It.own wr.heap.size w6.heap.size a6 zt :: It.box w.heap.size #[.int .i64 0, .int .i64 0, .slice none 0 0] 25 :: It.own lo3 w3.heap.size (some ⟨b4, o4, none⟩) xs :: l) := S8.turn fun i hi => by
          simp only [List.mem_cons] at hi ⊢
          rcases hi with h | h | h | h | h | h | h
          · exact .inr (.inr (.inl h))
          · exact .inr (.inr (.inr (.inl h)))
          · exact .inr (.inr (.inr (.inr (.inl h))))
          · exact .inr (.inl h)
          · exact .inr (.inr (.inr (.inr (.inr (.inr (.inl h))))))
          · exact .inr (.inr (.inr (.inr (.inr (.inr (.inr (.inl h)))))))
          · exact .inr (.inr (.inr (.inr (.inr (.inr (.inr (.inr h)))))))
        have SA := S9.set3Box 2 rfl ⟨.inl (by show r + 1 ≤ w1.heap.size; omega), .inl (by show bh ≤ w1.heap.size; omega), .inr (by show w1.heap.size + 1 ≤ wr.heap.size; omega), .inl (by show w.heap.size + 1 ≤ w1.heap.size; omega), .inr (by show w1.heap.size + 1 ≤ lo3; omega), FL.out _ (by show w.heap.size ≤ w1.heap.size; omega)⟩ (by omega) (.int .i64 t) (.int .i64 q) (.slice a6 n c6)
        simp only [List.set_cons_zero, List.set_cons_succ] at SA
        go_wp2
        go_roundw
        case rel => exact ⟨j + 1, wr.heap.size, w6.heap.size, a6, c6, zt, by omega, by go_num, HLZ.out, D1.out, by omega, .inr (by omega), by simp [World.setCell]; omega, SA⟩
        case measure => simp [intOf]; omega
    · obtain rfl : j = xs.length := by omega
      obtain ⟨x0, x1, x2, x3, x4, x5, xz⟩ := facts3 (Sr.cells 2 rfl)
      obtain ⟨y0, y1, y2, y3, y4, y5, yz⟩ := facts3 (Sr.cells 4 rfl)
      have S8 : St w0 wr (It.own lo hi aj zs :: rd r a c code p3 :: It.bytes bh a code :: l) := Sr.turn fun i hi => by
        simp only [List.mem_cons] at hi ⊢
        rcases hi with h | h | h | h
        · exact .inr (.inr (.inr (.inl h)))
        · exact .inl h
        · exact .inr (.inl h)
        · exact .inr (.inr (.inr (.inr (.inr (.inr h)))))
      have S9 := S8.set3Far (b := w.heap.size) ⟨.inr (by show w.heap.size + 1 ≤ lo; omega), .inl hrs, .inl hbh, FL.out _ (Nat.le_refl _)⟩ hz (.int .i64 t) (.int .i64 q) (.slice aj n cj)
      go_wp2
      refine bodyPost_ret (v := .agg #[.int .i64 t, .int .i64 q, .slice aj n cj]) (by simp [results, Tryz.results44, go_sem, y0, y1, y2, y3, y4, y5]) rfl ?_
      exact ⟨⟨t, q, zs⟩, aj, cj, lo, hi, p3, by unfold tabV; simp only [hy], hdr, by omega, hlo, S9⟩

end Go.Proofs.YtkdkdmjhhgllgaaGreatDoor
end

section
namespace Go.Proofs.YtkdkdmjhhgllgaaGreatDoor
open Go.RowKit

theorem St.storeAt6 {w0 w : World} {l : List It} {lo hi g o : Nat} {zs : List Int} (h : St w0 w l) (n i : Nat) (hi' : i < zs.length) (hn : l[n]? = some (It.own lo hi (some ⟨g, o, none⟩) zs)) (hf : Far (It.own lo hi (some ⟨g, o, none⟩) zs) (l.eraseIdx n)) (hlo : w0.heap.size ≤ lo) (v : Int) :
    St w0 (w.setCell ⟨g, o + i, none⟩ (.int .i64 v)) (l.set n (It.own lo hi (some ⟨g, o, none⟩) (zs.set i v))) :=
  h.markAt (a := some ⟨g, o, none⟩) (w' := w.setCell ⟨g, o + i, none⟩ (.int .i64 v)) ⟨rfl, rfl, rfl, by simp [World.setCell], fun k _ hk => Below.heap_setCell w ⟨g, o + i, none⟩ _ k (fun e => hk (by rw [e]; rfl))⟩ ((h.owns n hn).set i hi' v) n hn hf hlo
theorem SlotB.at {zs : List Int} (h : SlotB zs) {i : Nat} (hi : i < zs.length) : -2 ≤ nth zs i ∧ nth zs i ≤ 99 := h _ (nth_mem hi)

set_option maxHeartbeats 8000000 in
set_option maxRecDepth 100000 in
theorem l5Some_any {w0 w : World} {l : List It} {r bh : Nat} {a : Option Addr} {c p : Nat} {code : List Int} (S : St w0 w (rd r a c code p :: It.bytes bh a code :: l)) (ho : CodeOk code) (hr : w0.heap.size ≤ r) (hf : Far (rd r a c code p) (It.bytes bh a code :: l)) (hp : p ≤ 400000) :
    Calls Tryz.prog 43 #[.pointer (some ⟨r, 0, none⟩)] w fun e w' => ∃ (T : Tab) (a' : Option Addr) (c' lo hi p' : Nat), e = .returned (tabV T a' c') ∧ DrawnB T ∧
      p' ≤ p + 4000 ∧ w.heap.size + 1 ≤ lo ∧ St w0 w' (It.own lo hi a' T.zs :: rd r a c code p' :: It.bytes bh a code :: l) := by
  have hrs : r + 1 ≤ w.heap.size := S.sz 0 rfl
  have hbh : bh ≤ w.heap.size := S.sz 1 rfl
  have hz := S.size
  have FL : Hid (∀ i : It, w.heap.size ≤ i.lo → Far i l) := Lib.hid fun i h => Far.older S (fun j hj => List.mem_cons_of_mem _ (List.mem_cons_of_mem _ hj)) h
  have S1 := (S.alloc #[.int .i64 0, .int .i64 0, .slice none 0 0] 25).push
  have F1 := hf.push (p' := p) (x := It.box w.heap.size #[.int .i64 0, .int .i64 0, .slice none 0 0] 25) (.inl hrs)
  go_enter Tryz.func43, Tryz.ntmps43
  go_wp2_with fail
  refine (pick_any S1 ho hr F1 6 (by omega) (by omega) (by omega)).mono ?_
  rintro e w1 ⟨k, k0, k1, rfl, S2⟩
  have z1 : w.heap.size + 1 ≤ w1.heap.size := S2.sz 2 rfl
  cases e0 : (k == 0)
  · go_wp2_with fail
    refine (l1Empty_any S2 ho hr (Far.same F1 _) (by omega)).mono ?_
    rintro e w2 ⟨n, t, q, a1, c1, lo1, rfl, n1, n2, ⟨t1, t2⟩, ⟨q1, q2⟩, hlo1, S3⟩
    have R1 := S3.rowInts 0 rfl
    have z2 : lo1 < w2.heap.size := S3.rowLt 0 rfl (by simp; omega)
    obtain ⟨b1, o1, rfl, -, -⟩ := R1.2 (by simp; omega)
    have S3o : St w0 w2 (It.own lo1 w2.heap.size (some ⟨b1, o1, none⟩) (List.replicate n (-1)) :: rd r a c code (p + 1 + 3) :: It.bytes bh a code :: It.box w.heap.size #[.int .i64 0, .int .i64 0, .slice none 0 0] 25 :: l) :=
      (S3.add (It.own lo1 w2.heap.size (some ⟨b1, o1, none⟩) (List.replicate n (-1))) (Nat.le_refl _) ⟨R1, fun p hp => (R1.1 p hp).2⟩).turn fun i hi => by
        simp only [List.mem_cons] at hi ⊢
        rcases hi with h | h | h | h | h
        · exact .inl h
        · exact .inr (.inr (.inl h))
        · exact .inr (.inr (.inr (.inl h)))
        · exact .inr (.inr (.inr (.inr (.inl h))))
        · exact .inr (.inr (.inr (.inr (.inr h))))
    have S4 := (S3o.push.alloc #[.int .i64 t, .int .i64 q, .slice (some ⟨b1, o1, none⟩) n c1] 25).push
    have F2 := ((Far.same F1 (p + 1)).push (p' := p + 1 + 3) (x := It.own lo1 w2.heap.size (some ⟨b1, o1, none⟩) (List.replicate n (-1))) (.inl (by show _ ≤ lo1; omega))).push (p' := p + 1 + 3) (x := It.box w2.heap.size #[.int .i64 t, .int .i64 q, .slice (some ⟨b1, o1, none⟩) n c1] 25) (.inl (by show _ ≤ w2.heap.size; omega))
    obtain ⟨x0, x1, x2, x3, x4, x5, xz⟩ := facts3 (S4.cells 2 rfl)
    go_wp2_with fail
    clear x0 x1 x2 x3 x4 x5 xz
    refine (pick_any S4 ho hr F2 _ (by omega) (by omega) (by omega)).mono ?_
    rintro e w3 ⟨k3, k30, k31, rfl, S5⟩
    obtain ⟨m, rfl⟩ : ∃ m : Nat, k3 = m := ⟨k3.toNat, by omega⟩
    go_wp2_with fail
    refine (l1Keys_any S5 ho hr (Far.same F2 _) (by omega) m (by omega)).mono ?_
    rintro e w4 ⟨xs, a3, c3, lo3, p3, rfl, xs1, xs2, hp3, hlo3, S6⟩
    have z4 : w2.heap.size + 1 ≤ lo3 := Nat.le_trans (S5.sz 2 rfl) hlo3
    have z5 : w2.heap.size + 1 ≤ w4.heap.size := S6.sz 3 rfl
    have KS := Lib.hid xs2
    have S7 : St w0 w4 (rd r a c code p3 :: It.bytes bh a code :: It.own lo1 w2.heap.size (some ⟨b1, o1, none⟩) (List.replicate n (-1)) :: It.box w2.heap.size #[.int .i64 t, .int .i64 q, .slice (some ⟨b1, o1, none⟩) n c1] 25 :: It.box w.heap.size #[.int .i64 0, .int .i64 0, .slice none 0 0] 25 :: It.own lo3 w4.heap.size a3 xs :: l) :=
      S6.turn fun j hj => by
        simp only [List.mem_cons] at hj ⊢
        rcases hj with h | h | h | h | h | h | h
        · exact .inr (.inl h)
        · exact .inr (.inr (.inl h))
        · exact .inr (.inr (.inr (.inr (.inl h))))
        · exact .inr (.inr (.inr (.inl h)))
        · exact .inr (.inr (.inr (.inr (.inr (.inl h)))))
        · exact .inl h
        · exact .inr (.inr (.inr (.inr (.inr (.inr h)))))
    have FR : Hid (∀ (p' : Nat) (ys : List Int), Far (rd r a c code p') (It.bytes bh a code :: It.own lo1 w2.heap.size (some ⟨b1, o1, none⟩) ys :: It.box w2.heap.size #[.int .i64 t, .int .i64 q, .slice (some ⟨b1, o1, none⟩) n c1] 25 :: It.box w.heap.size #[.int .i64 0, .int .i64 0, .slice none 0 0] 25 :: It.own lo3 w4.heap.size a3 xs :: l)) :=
      Lib.hid fun p' ys => ⟨hf.1, .inr (by show r + 1 ≤ lo1; omega), .inr (by show r + 1 ≤ w2.heap.size; omega), .inr hrs, .inr (by show r + 1 ≤ lo3; omega), Far.same hf.2 p'⟩
    have FO : Hid (∀ (p' : Nat) (ys : List Int), Far (It.own lo1 w2.heap.size (some ⟨b1, o1, none⟩) ys) (rd r a c code p' :: It.bytes bh a code :: It.box w2.heap.size #[.int .i64 t, .int .i64 q, .slice (some ⟨b1, o1, none⟩) n c1] 25 :: It.box w.heap.size #[.int .i64 0, .int .i64 0, .slice none 0 0] 25 :: It.own lo3 w4.heap.size a3 xs :: l)) :=
      Lib.hid fun p' ys => ⟨.inl (by show r + 1 ≤ lo1; omega), .inl (by show bh ≤ lo1; omega), .inr (Nat.le_refl _), .inl (by show w.heap.size + 1 ≤ lo1; omega), .inr (by show w2.heap.size ≤ lo3; omega), FL.out _ (by show w.heap.size ≤ lo1; omega)⟩
    clear S1 S2 S3 S3o S4 S5 S6 F1 F2 R1 xs2
    go_wp2_with fail
    go_loopw [5, 6, 7, 27] (fun _ _ _ z wr => ∃ (j : Nat) (ys : List Int), j ≤ xs.length ∧ z = .int .i64 j ∧ ys.length = n ∧ SlotB ys ∧
        St w0 wr (rd r a c code p3 :: It.bytes bh a code :: It.own lo1 w2.heap.size (some ⟨b1, o1, none⟩) ys :: It.box w2.heap.size #[.int .i64 t, .int .i64 q, .slice (some ⟨b1, o1, none⟩) n c1] 25 :: It.box w.heap.size #[.int .i64 0, .int .i64 0, .slice none 0 0] 25 :: It.own lo3 w4.heap.size a3 xs :: l)) (fun _ _ _ z _ => xs.length - (intOf z).toNat)
    case atStart => exact ⟨0, List.replicate n (-1), Nat.zero_le _, rfl, by simp, fun x hx => by rw [List.eq_of_mem_replicate hx]; omega, S7⟩
    case round =>
      obtain ⟨j, ys, hj, rfl, hy, hys, Sr⟩ := hrel
      have Y := Lib.hid hy
      have YS := Lib.hid hys
      clear hys S7
      by_cases hlt : j < xs.length
      · obtain ⟨b4, o4, key, rfl, q4, X4⟩ := (Sr.ints 5 rfl).at hlt
        have hkey := KS.out key (by rw [← X4.out]; exact nth_all (P := fun x => x ∈ xs) (fun _ h => h) hlt)
        obtain ⟨key0, key1⟩ := hkey
        obtain ⟨x0, x1, x2, x3, x4, x5, xz⟩ := facts3 (Sr.cells 3 rfl)
        have PN := Lib.hid (place_n t q ys (some ⟨b1, o1, none⟩) n c1 key wr Y.out (by omega) (by exact Sr.ints 2 rfl))
        clear hy
        go_wp2_with fail
        refine PN.out.mono ?_
        rintro e w6 ⟨k6, rfl, k61, hb6⟩
        have S8 := Sr.below hb6
        clear x0 x1 x2 x3 x4 x5 xz q4 Sr hb6 PN
        by_cases h0 : 0 ≤ k6
        · obtain ⟨i, rfl⟩ : ∃ i : Nat, k6 = i := ⟨k6.toNat, by omega⟩
          have hi : i < ys.length := by rw [Y.out]; omega
          obtain ⟨x0, x1, x2, x3, x4, x5, xz⟩ := facts3 (S8.cells 3 rfl)
          obtain ⟨b', o', e, hc1, hf1⟩ := (S8.owns 2 rfl).2 (by omega)
          cases e
          have r1 := hc1 i hi
          have r2 := hf1 i hi
          obtain ⟨v, hv⟩ : ∃ v, ys[i]?.getD 0 = v := ⟨_, rfl⟩
          rw [hv] at r1
          clear hv hc1 hf1
          have d : decide ((0 : Int) ≤ (i : Int)) = true := decide_eq_true h0
          have S9 := S8.storeAt6 2 i hi rfl (FO.out _ _) (by omega) key
          simp only [List.set_cons_zero, List.set_cons_succ] at S9
          go_wp2
          go_roundw
          case rel => exact ⟨j + 1, ys.set i key, by omega, by go_num, by simp [Y.out], YS.out.set i (by omega) key1, S9⟩
          case measure => simp [intOf]; omega
        · have d : decide (0 ≤ k6) = false := decide_eq_false h0
          go_wp2
          go_roundw
          case rel => exact ⟨j + 1, ys, by omega, by go_num, Y.out, YS.out, S8⟩
          case measure => simp [intOf]; omega
      · have DR := Lib.hid fun (zs : List Int) (h : zs.length = n) (hb : SlotB zs) => (drawn_of (T := ⟨t, q, zs⟩) (by show 1 ≤ zs.length; omega) (by show zs.length ≤ 17; omega) (by show -1 ≤ t; omega) (by show t ≤ 16; omega) (by show -1 ≤ q; omega) (by show q ≤ 16; omega) (fun x hx => by have := hb x hx; omega))
        clear hy
        go_wp2_with fail
        refine (pick_any Sr ho hr (FR.out _ _) 6 (by omega) (by omega) (by omega)).mono ?_
        rintro e w5 ⟨k5, k50, k51, rfl, S8⟩
        clear Sr hj hlt
        obtain ⟨x0, x1, x2, x3, x4, x5, xz⟩ := facts3 (S8.cells 3 rfl)
        cases e5 : (k5 == 0)
        · obtain ⟨y0, y1, y2, y3, y4, y5, yz⟩ := facts3 (S8.cells 4 rfl)
          have S9 : St w0 w5 (It.own lo1 w2.heap.size (some ⟨b1, o1, none⟩) ys :: rd r a c code (p3 + 1) :: It.bytes bh a code :: l) := S8.turn fun i hi => by
            simp only [List.mem_cons] at hi ⊢
            rcases hi with h | h | h | h
            · exact .inr (.inr (.inl h))
            · exact .inl h
            · exact .inr (.inl h)
            · exact .inr (.inr (.inr (.inr (.inr (.inr h)))))
          have SA := S9.set3Far (b := w.heap.size) ⟨.inr (by show w.heap.size + 1 ≤ lo1; omega), .inl hrs, .inl hbh, FL.out _ (Nat.le_refl _)⟩ hz (.int .i64 t) (.int .i64 q) (.slice (some ⟨b1, o1, none⟩) n c1)
          go_wp2
          refine bodyPost_ret (v := .agg #[.int .i64 t, .int .i64 q, .slice (some ⟨b1, o1, none⟩) n c1]) (by simp [results, Tryz.results43, go_sem, y0, y1, y2, y3, y4, y5]) rfl ?_
          exact ⟨⟨t, q, ys⟩, _, c1, lo1, w2.heap.size, p3 + 1, by unfold tabV; simp only [Y.out], DR.out ys Y.out YS.out, by omega, by omega, SA⟩
        · go_wp2_with fail
          have S8d := S8.drew
          go_region_held3 (fun w' => w'.cell? ⟨w2.heap.size, 0, none⟩ = some (.int .i64 t) ∧ w'.cell? ⟨w2.heap.size, 1, none⟩ = some (.int .i64 q) ∧ w'.cell? ⟨w2.heap.size, 2, none⟩ = some (.slice (some ⟨b1, o1, none⟩) n c1))
            (first
              | exact ⟨x0, x1, x2⟩
              | exact S9.three 3 rfl
              | exact SA.three 3 rfl)
            (first
              | (go_at_call 14; refine (pick_any S9 ho hr (FR.out _ _) n (by omega) (by omega) (by omega)).mono ?_; rintro e w7 ⟨k7, k70, k71, rfl, SA⟩)
              | (go_at_call 14; refine (pick_any S8d ho hr (FR.out _ _) n (by omega) (by omega) (by omega)).mono ?_; rintro e w6 ⟨k6, k60, k61, rfl, S9⟩))
          obtain ⟨i6, rfl⟩ : ∃ i : Nat, k6 = i := ⟨k6.toNat, by omega⟩
          obtain ⟨i7, rfl⟩ : ∃ i : Nat, k7 = i := ⟨k7.toNat, by omega⟩
          clear S8 S8d S9 x0 x1 x2 x3 x4 x5 xz
          obtain ⟨x0, x1, x2, x3, x4, x5, xz⟩ := facts3 (SA.cells 3 rfl)
          have h6 : i6 < ys.length := by rw [Y.out]; omega
          have h7 : i7 < ys.length := by rw [Y.out]; omega
          obtain ⟨b', o', e, hc1, hf1⟩ := (SA.owns 2 rfl).2 (by omega)
          cases e
          have c6 := hc1 i6 h6
          have c7 := hc1 i7 h7
          have f6 := hf1 i6 h6
          have f7 := hf1 i7 h7
          have v6 := YS.out.at h6
          have v7 := YS.out.at h7
          have e6 : ys[i6]?.getD 0 = nth ys i6 := rfl
          have e7 : ys[i7]?.getD 0 = nth ys i7 := rfl
          rw [e6] at c6
          rw [e7] at c7
          clear hc1 hf1 e6 e7
          generalize nth ys i6 = y6 at c6 v6
          generalize nth ys i7 = y7 at c7 v7
          have SB := SA.storeAt6 2 i6 h6 rfl (FO.out _ _) (by omega) y7
          simp only [List.set_cons_zero, List.set_cons_succ] at SB
          have SC := SB.storeAt6 2 i7 (by simpa using h7) rfl (FO.out _ _) (by omega) y6
          simp only [List.set_cons_zero, List.set_cons_succ] at SC
          have HSC := Lib.hid SC
          have HSB := Lib.hid SB
          have kk0 : (0 : Int) ≤ (i6 : Int) := by omega
          have kk1 : (i6 : Int) < (n : Int) := by have := Y.out; omega
          have kk2 : (0 : Int) ≤ (i7 : Int) := by omega
          have kk3 : (i7 : Int) < (n : Int) := by have := Y.out; omega
          clear SB SC SA
          go_wp2_with fail
          go_region
          have SB := HSB.out
          obtain ⟨b', o', e, hc1, hf1⟩ := (SB.owns 2 rfl).2 (by simp; omega)
          cases e
          have c7' := hc1 i7 (by simpa using h7)
          have f7' := hf1 i7 (by simpa using h7)
          obtain ⟨v7', hv7'⟩ : ∃ v, (ys.set i6 y7)[i7]?.getD 0 = v := ⟨_, rfl⟩
          rw [hv7'] at c7'
          obtain ⟨u0, u1, u2, u3, u4, u5, uz⟩ := facts3 (SB.cells 3 rfl)
          clear hc1 hf1 c6 c7 f6 f7 x0 x1 x2 x3 x4 x5 xz hv7'
          have SC := HSC.out
          obtain ⟨p0, p1, p2, p3', p4, p5, pz⟩ := facts3 (SC.cells 3 rfl)
          obtain ⟨s0, s1, s2, s3, s4, s5, sz⟩ := facts3 (SC.cells 4 rfl)
          have SD : St w0 _ (It.own lo1 w2.heap.size (some ⟨b1, o1, none⟩) ((ys.set i6 y7).set i7 y6) :: rd r a c code (p3 + 1 + 1 + 1) :: It.bytes bh a code :: l) := SC.turn fun i hi => by
            simp only [List.mem_cons] at hi ⊢
            rcases hi with h | h | h | h
            · exact .inr (.inr (.inl h))
            · exact .inl h
            · exact .inr (.inl h)
            · exact .inr (.inr (.inr (.inr (.inr (.inr h)))))
          have SE := SD.set3Far (b := w.heap.size) ⟨.inr (by show w.heap.size + 1 ≤ lo1; omega), .inl hrs, .inl hbh, FL.out _ (Nat.le_refl _)⟩ hz (.int .i64 t) (.int .i64 q) (.slice (some ⟨b1, o1, none⟩) n c1)
          go_wp2_with fail
          refine bodyPost_ret (v := .agg #[.int .i64 t, .int .i64 q, .slice (some ⟨b1, o1, none⟩) n c1]) (by simp [results, Tryz.results43, go_sem, s0, s1, s2, s3, s4, s5]) rfl ?_
          have hlen : ((ys.set i6 y7).set i7 y6).length = n := by simp [Y.out]
          exact ⟨⟨t, q, (ys.set i6 y7).set i7 y6⟩, some ⟨b1, o1, none⟩, c1, lo1, w2.heap.size, p3 + 1 + 1 + 1, by show Ending.returned (.agg #[.int .i64 t, .int .i64 q, .slice (some ⟨b1, o1, none⟩) n c1]) = .returned (.agg #[.int .i64 t, .int .i64 q, .slice (some ⟨b1, o1, none⟩) ((ys.set i6 y7).set i7 y6).length c1]); rw [hlen], DR.out _ hlen ((YS.out.set i6 v7.1 v7.2).set i7 v6.1 v6.2), by omega, by omega, by first | exact SE | exact SE.drew⟩
  · go_wp2_with fail
    refine (l2Some_any S2 ho hr (Far.same F1 _) (by omega)).mono ?_
    rintro e w2 ⟨T, a', c', lo, hi, p', rfl, hT, hp', hlo, S3⟩
    obtain ⟨x0, x1, x2, x3, x4, x5, xz⟩ := facts3 (S3.cells 3 rfl)
    have S4 : St w0 w2 (It.own lo hi a' T.zs :: rd r a c code p' :: It.bytes bh a code :: l) := S3.turn fun i hi => by
      simp only [List.mem_cons] at hi ⊢
      rcases hi with h | h | h | h
      · exact .inl h
      · exact .inr (.inl h)
      · exact .inr (.inr (.inl h))
      · exact .inr (.inr (.inr (.inr h)))
    have S5 := S4.set3Far (b := w.heap.size) ⟨.inr (by show w.heap.size + 1 ≤ lo; omega), .inl hrs, .inl hbh, FL.out _ (Nat.le_refl _)⟩ hz (.int .i64 T.t) (.int .i64 T.p) (.slice a' T.zs.length c')
    go_wp2
    refine bodyPost_ret (v := tabV T a' c') (by simp [results, Tryz.results43, go_sem, x0, x1, x2, x3, x4, x5]) rfl ?_
    exact ⟨T, a', c', lo, hi, p', rfl, hT, by omega, by omega, S5⟩

end Go.Proofs.YtkdkdmjhhgllgaaGreatDoor
end

section
namespace Go.Proofs.YtkdkdmjhhgllgaaGreatDoor
open Go.RowKit
end Go.Proofs.YtkdkdmjhhgllgaaGreatDoor
end

section
namespace Go.Proofs.YtkdkdmjhhgllgaaGreatDoor
open Go.RowKit

set_option maxHeartbeats 4000000 in
theorem l6Some_any {w0 w : World} {l : List It} {r bh : Nat} {a : Option Addr} {c p : Nat} {code : List Int} (S : St w0 w (rd r a c code p :: It.bytes bh a code :: l)) (ho : CodeOk code) (hr : w0.heap.size ≤ r) (hf : Far (rd r a c code p) (It.bytes bh a code :: l)) (hp : p ≤ 300000) :
    Calls Tryz.prog 13 #[.pointer (some ⟨r, 0, none⟩)] w fun e w' => ∃ (T : Tab) (a' : Option Addr) (c' lo hi p' : Nat), e = .returned (tabV T a' c') ∧ DrawnB T ∧
      p' ≤ p + 5000 ∧ w.heap.size + 1 ≤ lo ∧ St w0 w' (It.own lo hi a' T.zs :: rd r a c code p' :: It.bytes bh a code :: l) := by
  have hrs : r + 1 ≤ w.heap.size := S.sz 0 rfl
  have hbh : bh ≤ w.heap.size := S.sz 1 rfl
  have hz := S.size
  have FL : Hid (∀ i : It, w.heap.size ≤ i.lo → Far i l) := Lib.hid fun i h => Far.older S (fun j hj => List.mem_cons_of_mem _ (List.mem_cons_of_mem _ hj)) h
  have S1 := (S.alloc #[.int .i64 0, .int .i64 0, .slice none 0 0] 25).push
  have F1 := hf.push (p' := p) (x := It.box w.heap.size #[.int .i64 0, .int .i64 0, .slice none 0 0] 25) (.inl hrs)
  have DONE : Hid (∀ (w2 : World) (T : Tab) (a' : Option Addr) (c' lo hi p' : Nat), DrawnB T → p' ≤ p + 5000 → w.heap.size + 1 ≤ lo →
      St w0 w2 (It.own lo hi a' T.zs :: rd r a c code p' :: It.bytes bh a code :: It.box w.heap.size #[.int .i64 0, .int .i64 0, .slice none 0 0] 25 :: l) →
      ∃ (T2 : Tab) (a2 : Option Addr) (c2 lo hi p' : Nat), Ending.returned (tabV T a' c') = .returned (tabV T2 a2 c2) ∧ DrawnB T2 ∧ p' ≤ p + 5000 ∧ w.heap.size + 1 ≤ lo ∧
        St w0 (((w2.setCell ⟨w.heap.size, 0, none⟩ (.int .i64 T.t)).setCell ⟨w.heap.size, 1, none⟩ (.int .i64 T.p)).setCell ⟨w.heap.size, 2, none⟩ (.slice a' T.zs.length c')) (It.own lo hi a2 T2.zs :: rd r a c code p' :: It.bytes bh a code :: l)) := Lib.hid (by
    intro w2 T a' c' lo hi p' hT hp' hlo S3
    have S4 : St w0 w2 (It.own lo hi a' T.zs :: rd r a c code p' :: It.bytes bh a code :: l) := S3.turn fun i hi => by
      simp only [List.mem_cons] at hi ⊢
      rcases hi with h | h | h | h
      · exact .inl h
      · exact .inr (.inl h)
      · exact .inr (.inr (.inl h))
      · exact .inr (.inr (.inr (.inr h)))
    exact ⟨T, a', c', lo, hi, p', rfl, hT, hp', hlo, S4.set3Far ⟨.inr (by show w.heap.size + 1 ≤ lo; omega), .inl hrs, .inl hbh, FL.out _ (Nat.le_refl _)⟩ hz _ _ _⟩)
  go_enter Tryz.func13, Tryz.ntmps13
  go_wp2_with fail
  refine (pick_any S1 ho hr F1 10 (by omega) (by omega) (by omega)).mono ?_
  rintro e w1 ⟨k, k0, k1, rfl, S2⟩
  have z1 : w.heap.size + 1 ≤ w1.heap.size := S2.sz 2 rfl
  cases e0 : (k == 0)
  · cases e1 : (k == 1)
    · go_wp2_with fail
      refine (l6Fair_any S2 ho hr (Far.same F1 _) (by omega)).mono ?_
      rintro e w3 ⟨T, a', c', lo, hi, p', rfl, hT, hp', hlo, S3⟩
      obtain ⟨x0, x1, x2, x3, x4, x5, xz⟩ := facts3 (S3.cells 3 rfl)
      go_wp2
      refine bodyPost_ret (v := tabV T a' c') (by simp [results, Tryz.results13, go_sem, x0, x1, x2]) rfl ?_
      exact DONE.out w3 T a' c' lo hi p' hT (by omega) (by omega) S3
    · go_wp2_with fail
      refine (l5Some_any S2 ho hr (Far.same F1 _) (by omega)).mono ?_
      rintro e w3 ⟨T, a', c', lo, hi, p', rfl, hT, hp', hlo, S3⟩
      obtain ⟨x0, x1, x2, x3, x4, x5, xz⟩ := facts3 (S3.cells 3 rfl)
      go_wp2
      refine bodyPost_ret (v := tabV T a' c') (by simp [results, Tryz.results13, go_sem, x0, x1, x2]) rfl ?_
      exact DONE.out w3 T a' c' lo hi p' hT (by omega) (by omega) S3
  · go_wp2_with fail
    refine (l2Some_any S2 ho hr (Far.same F1 _) (by omega)).mono ?_
    rintro e w3 ⟨T, a', c', lo, hi, p', rfl, hT, hp', hlo, S3⟩
    obtain ⟨x0, x1, x2, x3, x4, x5, xz⟩ := facts3 (S3.cells 3 rfl)
    go_wp2
    refine bodyPost_ret (v := tabV T a' c') (by simp [results, Tryz.results13, go_sem, x0, x1, x2]) rfl ?_
    exact DONE.out w3 T a' c' lo hi p' hT (by omega) (by omega) S3

end Go.Proofs.YtkdkdmjhhgllgaaGreatDoor
end

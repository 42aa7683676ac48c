/-
  What chapter 2's draws make: l2Made.
-/
import Derived.Test.YtpncpeokdcolpaaPlace
import Derived.Test.YtpncpeokdcolpaaDraw4
namespace Go.Proofs.Ytpncpeokdcolpaa
open Go.RowKit

theorem place_lt {T : Tab} {key : Int} (h : 0 ≤ placeI T key) : placeI T key < T.zs.length := by
  cases hv : (validB T && inB key 0 99)
  · rw [placeI_no (.inl hv)] at h; omega
  · by_cases hf : 0 ≤ findI T key
    · rw [placeI_no (.inr hf)] at h; omega
    · obtain ⟨v1, _⟩ := asked_yes hv
      rw [placeI_yes hv (by omega)] at h ⊢
      unfold firstLow at h ⊢
      cases hq : (wayOf T key).find? fun k => decide (nth T.zs k.toNat < 0) with
      | none => rw [hq] at h; simp at h
      | some v =>
        have hm := List.mem_of_find?_eq_some hq
        obtain ⟨j, hj, e⟩ := List.getElem_of_mem hm
        obtain ⟨k, hk, hkl⟩ := way_nth T v1 key hj
        rw [nth, List.getElem?_eq_getElem hj, e] at hk
        simp at hk
        simp
        omega

theorem place_n (t q : Int) (ys : List Int) (a : Option Addr) (n c : Nat) (key : Int) (w : World) (hn : ys.length = n) (hx : n ≤ 100) (h1 : IntsAt w a ys) :
    Calls Try.prog 79 #[tbl t q a n c, .int .i64 key] w fun e w' => ∃ k : Int, e = .returned (.tuple #[.int .i64 k, .bool (decide (0 ≤ k))]) ∧ k < n ∧ Below w.heap.size w w' := by
  subst hn
  refine (specPlaceFor_any ⟨t, q, ys⟩ a c key w (by show ys.length ≤ _; omega) h1).mono ?_
  rintro e w' ⟨rfl, hb⟩
  refine ⟨_, rfl, ?_, hb⟩
  by_cases h : 0 ≤ placeI ⟨t, q, ys⟩ key
  · exact place_lt h
  · omega

set_option maxHeartbeats 8000000 in
set_option maxRecDepth 100000 in
theorem l2Made_any {w0 w : World} {l : List It} {r bh : Nat} {a : Option Addr} {c p : Nat} {code : List Int} (S : St w0 w (rd r a c code p :: It.bytes bh a code :: l)) (ho : CodeOk code) (hr : w0.heap.size ≤ r) (hf : Far (rd r a c code p) (It.bytes bh a code :: l)) (hp : p ≤ 600000) :
    Calls Try.prog 69 #[.pointer (some ⟨r, 0, none⟩)] w fun e w' => ∃ (T : Tab) (a' : Option Addr) (c' lo p' : Nat), e = .returned (tabV T a' c') ∧ DrawnB T ∧
      p' ≤ p + 1000 ∧ w.heap.size ≤ lo ∧ St w0 w' (It.own lo w'.heap.size a' T.zs :: rd r a c code p' :: It.bytes bh a code :: l) := by
  have hrs : r + 1 ≤ w.heap.size := S.sz 0 rfl
  have hbh : bh ≤ w.heap.size := S.sz 1 rfl
  have FL : Hid (∀ i : It, w.heap.size ≤ i.lo → Far i l) := Lib.hid fun i h => Far.older S (fun j hj => List.mem_cons_of_mem _ (List.mem_cons_of_mem _ hj)) h
  have S1 := (S.alloc #[.int .i64 0, .int .i64 0, .slice none 0 0] 27).push
  have F1 := hf.push (p' := p) (x := It.box w.heap.size #[.int .i64 0, .int .i64 0, .slice none 0 0] 27) (.inl hrs)
  go_enter Try.func69, Try.ntmps69
  go_wp2_with fail
  refine (l1Empty_any S1 ho hr F1 (by omega)).mono ?_
  rintro e w1 ⟨n, t, q, a1, c1, lo1, rfl, n1, n2, ⟨t1, t2⟩, ⟨q1, q2⟩, hlo1, S2⟩
  rw [World.size_alloc] at hlo1
  have S3 := (S2.push.alloc #[.int .i64 t, .int .i64 q, .slice a1 n c1] 27).push
  have z1 : lo1 < w1.heap.size := S2.rowLt 0 rfl (by simp; omega)
  have F2 := (F1.push (p' := p + 3) (x := It.row lo1 w1.heap.size (.slice a1 n c1) (List.replicate n (-1))) (.inl (by show _ ≤ lo1; omega))).push (p' := p + 3) (x := It.box w1.heap.size #[.int .i64 t, .int .i64 q, .slice a1 n c1] 27) (.inl (by show _ ≤ w1.heap.size; omega))
  obtain ⟨x0, x1, x2, x3, x4, x5, xz⟩ := facts3 (S3.cells 2 rfl)
  go_wp2_with fail
  clear x0 x1 x2 x3 x4 x5 xz
  refine (pick_any S3 ho hr F2 _ (by omega) (by omega) (by omega)).mono ?_
  rintro e w2 ⟨k, k0, k1, rfl, S4⟩
  obtain ⟨m, rfl⟩ : ∃ m : Nat, k = m := ⟨k.toNat, by omega⟩
  go_wp2_with fail
  refine (l1Keys_any S4 ho hr (Far.same F2 _) (by omega) m (by omega)).mono ?_
  rintro e w3 ⟨xs, a3, c3, lo3, p3, rfl, xs1, xs2, hp3, hlo3, S5⟩
  have KS := Lib.hid xs2
  clear xs2
  have z3 : w1.heap.size + 1 ≤ w3.heap.size := S5.sz 3 rfl
  have z4 : w1.heap.size + 1 ≤ lo3 := Nat.le_trans (S4.sz 2 rfl) hlo3
  have S7 : St w0 w3 (rd r a c code p3 :: It.bytes bh a code :: It.row lo1 w1.heap.size (.slice a1 n c1) (List.replicate n (-1)) :: It.box w1.heap.size #[.int .i64 t, .int .i64 q, .slice a1 n c1] 27 :: It.box w.heap.size #[.int .i64 0, .int .i64 0, .slice none 0 0] 27 :: It.own lo3 w3.heap.size a3 xs :: l) :=
    S5.turn fun j hj => by
      simp only [List.mem_cons] at hj ⊢
      rcases hj with h | h | h | h | h | h | h
      · exact .inr (.inl h)
      · exact .inr (.inr (.inl h))
      · exact .inr (.inr (.inr (.inr (.inl h))))
      · exact .inr (.inr (.inr (.inl h)))
      · exact .inr (.inr (.inr (.inr (.inr (.inl h)))))
      · exact .inl h
      · exact .inr (.inr (.inr (.inr (.inr (.inr h)))))
  have FR : Hid (∀ (p' : Nat) (ys : List Int), Far (rd r a c code p') (It.bytes bh a code :: It.row lo1 w1.heap.size (.slice a1 n c1) ys :: It.box w1.heap.size #[.int .i64 t, .int .i64 q, .slice a1 n c1] 27 :: It.box w.heap.size #[.int .i64 0, .int .i64 0, .slice none 0 0] 27 :: It.own lo3 w3.heap.size a3 xs :: l)) :=
    Lib.hid fun p' ys => ⟨hf.1, .inr (by show r + 1 ≤ lo1; omega), .inr (by show r + 1 ≤ w1.heap.size; omega), .inr hrs, .inr (by show r + 1 ≤ lo3; omega), Far.same hf.2 p'⟩
  have FO : Hid (∀ (p' : Nat) (ys : List Int), Far (It.row lo1 w1.heap.size (.slice a1 n c1) ys) (rd r a c code p' :: It.bytes bh a code :: It.box w1.heap.size #[.int .i64 t, .int .i64 q, .slice a1 n c1] 27 :: It.box w.heap.size #[.int .i64 0, .int .i64 0, .slice none 0 0] 27 :: It.own lo3 w3.heap.size a3 xs :: l)) :=
    Lib.hid fun p' ys => ⟨.inl (by show r + 1 ≤ lo1; omega), .inl (by show bh ≤ lo1; omega), .inr (Nat.le_refl _), .inl (by show w.heap.size + 1 ≤ lo1; omega), .inr (by show w1.heap.size ≤ lo3; omega), FL.out _ (by show w.heap.size ≤ lo1; omega)⟩
  have DONE : Hid (∀ (wr wf : World) (ys : List Int) (p' : Nat), ys.length = n → SlotB ys → p' ≤ p + 1000 →
      St w0 wr (rd r a c code p' :: It.bytes bh a code :: It.row lo1 w1.heap.size (.slice a1 n c1) ys :: It.box w1.heap.size #[.int .i64 t, .int .i64 q, .slice a1 n c1] 27 :: It.box w.heap.size #[.int .i64 0, .int .i64 0, .slice none 0 0] 27 :: It.own lo3 w3.heap.size a3 xs :: l) →
      wf = ((wr.setCell ⟨w.heap.size, 0, none⟩ (.int .i64 t)).setCell ⟨w.heap.size, 1, none⟩ (.int .i64 q)).setCell ⟨w.heap.size, 2, none⟩ (.slice a1 n c1) →
      ∃ (T : Tab) (a' : Option Addr) (c' lo p' : Nat), Ending.returned (tbl t q a1 n c1) = .returned (tabV T a' c') ∧ DrawnB T ∧ p' ≤ p + 1000 ∧ w.heap.size ≤ lo ∧ St w0 wf (It.own lo wf.heap.size a' T.zs :: rd r a c code p' :: It.bytes bh a code :: l)) := Lib.hid (by
    intro wr wf ys p' hy hys hp' Sq hwf
    have T0 : St w0 wr (rd r a c code p' :: It.bytes bh a code :: It.box w1.heap.size #[.int .i64 t, .int .i64 q, .slice a1 n c1] 27 :: It.row lo1 w1.heap.size (.slice a1 n c1) ys :: It.box w.heap.size #[.int .i64 0, .int .i64 0, .slice none 0 0] 27 :: l) := Sq.turn fun j hj => by
      simp only [List.mem_cons] at hj ⊢
      rcases hj with h | h | h | h | h | h
      · exact .inl h
      · exact .inr (.inl h)
      · exact .inr (.inr (.inr (.inl h)))
      · exact .inr (.inr (.inl h))
      · exact .inr (.inr (.inr (.inr (.inl h))))
      · exact .inr (.inr (.inr (.inr (.inr (.inr h)))))
    exact ⟨⟨t, q, ys⟩, a1, c1, lo1, p', by subst hy; rfl, drawn_of (by show 1 ≤ ys.length; omega) (by show ys.length ≤ 17; omega) (by show -1 ≤ t; omega) (by show t ≤ 16; omega) (by show -1 ≤ q; omega) (by show q ≤ 16; omega) (fun x hx => by have := hys x hx; omega), hp', by omega, some_close T0 hrs hbh FL.out hlo1 (by omega) _ _ _ _ hwf⟩)
  clear S1 S2 S3 S4 S5 F1 F2
  go_wp2_with fail
  go_loopw [5, 6, 7, 20] (fun _ _ _ z wr => ∃ (j : Nat) (ys : List Int) (p' : Nat), j ≤ xs.length ∧ z = .int .i64 j ∧ ys.length = n ∧ SlotB ys ∧ p' ≤ p3 ∧
      St w0 wr (rd r a c code p' :: It.bytes bh a code :: It.row lo1 w1.heap.size (.slice a1 n c1) ys :: It.box w1.heap.size #[.int .i64 t, .int .i64 q, .slice a1 n c1] 27 :: It.box w.heap.size #[.int .i64 0, .int .i64 0, .slice none 0 0] 27 :: It.own lo3 w3.heap.size a3 xs :: l)) (fun _ _ _ z _ => xs.length - (intOf z).toNat)
  case atStart => exact ⟨0, List.replicate n (-1), p3, Nat.zero_le _, rfl, by simp, fun x hx => by rw [List.eq_of_mem_replicate hx]; omega, Nat.le_refl _, S7⟩
  case round =>
    obtain ⟨j, ys, p', hj, rfl, hy, hys, hp', Sr⟩ := hrel
    have Y := Lib.hid hy
    have YS := Lib.hid hys
    clear hy hys S7
    by_cases hlt : j < xs.length
    · obtain ⟨b4, o4, key, rfl, q4, X4⟩ := (Sr.ints 5 rfl).at hlt
      have hkey := KS.out key (by rw [← X4.out]; exact nth_all (P := fun x => x ∈ xs) (fun _ h => h) hlt)
      obtain ⟨key0, key1⟩ := hkey
      obtain ⟨x0, x1, x2, x3, x4, x5, xz⟩ := facts3 (Sr.cells 3 rfl)
      go_wp2_with fail
      refine (place_n t q ys a1 n c1 key _ Y.out (by omega) (by exact (Sr.rowInts 2 rfl).ints)).mono ?_
      rintro e w6 ⟨k6, rfl, k61, hb6⟩
      have S8 := Sr.below hb6
      clear x0 x1 x2 x3 x4 x5 xz q4 Sr hb6
      by_cases h0 : 0 ≤ k6
      · obtain ⟨i, rfl⟩ : ∃ i : Nat, k6 = i := ⟨k6.toNat, by omega⟩
        have hi : i < ys.length := by rw [Y.out]; omega
        obtain ⟨x0, x1, x2, x3, x4, x5, xz⟩ := facts3 (S8.cells 3 rfl)
        have hown := S8.rowInts 2 rfl
        obtain ⟨b1, o1, rfl, hc1, hf1⟩ := hown.2 (by omega)
        have r1 := hc1 i hi
        have r2 := hf1 i hi
        obtain ⟨v, hv⟩ : ∃ v, ys[i]?.getD 0 = v := ⟨_, rfl⟩
        rw [hv] at r1
        clear hv hc1 hf1 hown
        have d : decide ((0 : Int) ≤ (i : Int)) = true := decide_eq_true h0
        have S9 := (S8.pull.store i hi (FO.out _ _) (by omega) key).push
        go_wp2
        go_roundw
        case rel => exact ⟨j + 1, ys.set i key, p', by omega, by go_num, by simp [Y.out], YS.out.set i (by omega) key1, hp', S9⟩
        case measure => simp [intOf]; omega
      · have d : decide (0 ≤ k6) = false := decide_eq_false h0
        go_wp2
        go_roundw
        case rel => exact ⟨j + 1, ys, p', by omega, by go_num, Y.out, YS.out, hp', S8⟩
        case measure => simp [intOf]; omega
    · go_wp2_with fail
      refine (pick_any Sr ho hr (FR.out _ _) 2 (by omega) (by omega) (by omega)).mono ?_
      rintro e w5 ⟨k5, k50, k51, rfl, S5⟩
      clear Sr hj hlt
      obtain ⟨x0, x1, x2, x3, x4, x5, xz⟩ := facts3 (S5.cells 3 rfl)
      cases e5 : (k5 == 0)
      · obtain ⟨y0, y1, y2, y3, y4, y5, yz⟩ := facts3 (S5.cells 4 rfl)
        go_wp2
        refine bodyPost_ret (v := tbl t q a1 n c1) (by simp [results, Try.results69, go_sem, y0, y1, y2]) rfl ?_
        exact DONE.out _ _ ys (p' + 1) Y.out YS.out (by omega) S5 rfl
      · go_wp2_with fail
        go_loopw [8, 43] (fun _ z wr => ∃ (i : Nat) (ys : List Int) (p' : Nat), i ≤ n ∧ z = .int .i64 i ∧ ys.length = n ∧ SlotB ys ∧ p' ≤ p3 + 1 + i ∧
            St w0 wr (rd r a c code p' :: It.bytes bh a code :: It.row lo1 w1.heap.size (.slice a1 n c1) ys :: It.box w1.heap.size #[.int .i64 t, .int .i64 q, .slice a1 n c1] 27 :: It.box w.heap.size #[.int .i64 0, .int .i64 0, .slice none 0 0] 27 :: It.own lo3 w3.heap.size a3 xs :: l)) (fun _ z _ => n - (intOf z).toNat)
        case atStart => exact ⟨0, ys, p' + 1, Nat.zero_le _, rfl, Y.out, YS.out, by omega, S5⟩
        case round =>
          obtain ⟨i, ys2, p2, hi, rfl, hy2, hys2, hp2, Sq⟩ := hrel
          have Y2 := Lib.hid hy2
          have YS2 := Lib.hid hys2
          clear hy2 hys2 S5 x0 x1 x2 x3 x4 x5 xz
          by_cases hlt : i < n
          · have hi2 : i < ys2.length := by rw [Y2.out]; exact hlt
            obtain ⟨x0, x1, x2, x3, x4, x5, xz⟩ := facts3 (Sq.cells 3 rfl)
            have hown := Sq.rowInts 2 rfl
            obtain ⟨b1, o1, rfl, hc1, hf1⟩ := hown.2 (by omega)
            have r1 := hc1 i hi2
            obtain ⟨v, hv⟩ : ∃ v, ys2[i]?.getD 0 = v := ⟨_, rfl⟩
            rw [hv] at r1
            clear hv hc1 hf1 hown
            cases he : decide (0 ≤ v)
            · go_wp2
              go_roundw
              case rel => exact ⟨i + 1, ys2, p2, by omega, by go_num, Y2.out, YS2.out, by omega, Sq⟩
              case measure => simp [intOf]; omega
            · go_wp2_with fail
              refine (pick_any Sq ho hr (FR.out _ _) 5 (by omega) (by omega) (by omega)).mono ?_
              rintro e w6 ⟨k6, k60, k61, rfl, S8⟩
              clear x0 x1 x2 x3 x4 x5 xz r1 Sq
              obtain ⟨x0, x1, x2, x3, x4, x5, xz⟩ := facts3 (S8.cells 3 rfl)
              have hown := S8.rowInts 2 rfl
              obtain ⟨b1', o1', e1, hc1, hf1⟩ := hown.2 (by omega)
              cases e1
              have r1 := hc1 i hi2
              have r2 := hf1 i hi2
              clear hc1 hf1 hown
              have S9 := (S8.pull.store i hi2 (FO.out _ _) (by omega) (-2)).push
              cases hk : (k6 == 0)
              · go_wp2
                go_roundw
                case rel => exact ⟨i + 1, ys2, p2 + 1, by omega, by go_num, Y2.out, YS2.out, by omega, S8⟩
                case measure => simp [intOf]; omega
              · go_wp2
                go_roundw
                case rel => exact ⟨i + 1, ys2.set i (-2), p2 + 1, by omega, by go_num, by simp [Y2.out], YS2.out.set i (by omega) (by omega), by omega, S9⟩
                case measure => simp [intOf]; omega
          · obtain ⟨x0, x1, x2, x3, x4, x5, xz⟩ := facts3 (Sq.cells 3 rfl)
            obtain ⟨y0, y1, y2, y3, y4, y5, yz⟩ := facts3 (Sq.cells 4 rfl)
            go_wp2
            refine bodyPost_ret (v := tbl t q a1 n c1) (by simp [results, Try.results69, go_sem, y0, y1, y2]) rfl ?_
            exact DONE.out _ _ ys2 p2 Y2.out YS2.out (by omega) Sq rfl

end Go.Proofs.Ytpncpeokdcolpaa

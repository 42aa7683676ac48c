/-
  Draws of tables, and copies of them.
-/
import Derived.Test.YtkdkdmjhhgllgaaGreatDoorDraw3
import Derived.Deep.RegionHeld3
import Derived.Deep.AppendLies
import Derived.Test.YtkdkdmjhhgllgaaGreatDoorBase
namespace Go.Proofs.YtkdkdmjhhgllgaaGreatDoor
open Go.RowKit

/-- What a drawn table is like. -/
structure DrawnB (T : Tab) : Prop where
  len : 1 ≤ T.zs.length ∧ T.zs.length ≤ 17
  t : -1 ≤ T.t ∧ T.t ≤ 16
  p : -1 ≤ T.p ∧ T.p ≤ 16
  zs : ∀ x ∈ T.zs, -3 ≤ x ∧ x ≤ 100

theorem set_all {zs : List Int} {P : Int → Prop} {x : Int} (h : ∀ y ∈ zs, P y) (i : Nat) (hx : P x) : ∀ y ∈ zs.set i x, P y := by
  intro y hy
  rcases List.mem_or_eq_of_mem_set hy with h2 | rfl
  · exact h y h2
  · exact hx

/-- A store into a block of cells. -/
theorem St.setBox {w0 w : World} {l : List It} {b : Nat} {c : Array Value} {t : TypeId} (h : St w0 w (It.box b c t :: l)) (o : Nat) (v : Value) (hf : Far (It.box b c t) l) (hlo : w0.heap.size ≤ b) : St w0 (w.setCell ⟨b, o, none⟩ v) (It.box b (c.setIfInBounds o v) t :: l) := by
  refine h.write (row := some b) ⟨rfl, rfl, rfl, by simp [World.setCell], fun k _ hk => Below.heap_setCell w _ _ k (fun e => hk (by rw [e]))⟩ (fun k e => by cases e; exact ⟨Nat.le_refl _, Nat.lt_succ_self _⟩) hf hlo ?_ (setCell_at (h.cells 0 rfl) o v)
  have h3 : b + 1 ≤ w.heap.size := h.sz 0 rfl
  show b + 1 ≤ (w.setCell _ _).heap.size
  simpa [World.setCell] using h3

theorem pull_row {w0 w : World} {l : List It} {i j k m n o : It} (h : St w0 w (i :: j :: k :: m :: n :: o :: l)) : St w0 w (n :: i :: j :: m :: o :: l) := h.turn fun x hx => by
  simp only [List.mem_cons] at hx ⊢
  rcases hx with h | h | h | h | h | h
  · exact .inr (.inr (.inr (.inr (.inl h))))
  · exact .inl h
  · exact .inr (.inl h)
  · exact .inr (.inr (.inr (.inl h)))
  · exact .inr (.inr (.inr (.inr (.inr (.inl h)))))
  · exact .inr (.inr (.inr (.inr (.inr (.inr h)))))

/-- The result is stored. -/
theorem some_close {w0 w w5 : World} {l : List It} {r bh p5 lo h c' n' : Nat} {a a' : Option Addr} {c : Nat} {code ys : List Int} {B R : It} (S5 : St w0 w5 (rd r a c code p5 :: It.bytes bh a code :: B :: It.row lo h (.slice a' n' c') ys :: R :: l))
    (hrs : r + 1 ≤ w.heap.size) (hbh : bh ≤ w.heap.size) (FL : ∀ i : It, w.heap.size ≤ i.lo → Far i l) (hlo : w.heap.size + 1 ≤ lo) (hw : w0.heap.size ≤ w.heap.size) (x y z : Value) (wf : World)
    (hwf : wf = ((w5.setCell ⟨w.heap.size, 0, none⟩ x).setCell ⟨w.heap.size, 1, none⟩ y).setCell ⟨w.heap.size, 2, none⟩ z) :
    St w0 wf (It.own lo wf.heap.size a' ys :: rd r a c code p5 :: It.bytes bh a code :: l) := by
  subst hwf
  have T0 : St w0 w5 (It.row lo h (.slice a' n' c') ys :: rd r a c code p5 :: It.bytes bh a code :: l) := S5.turn fun j hj => by
    simp only [List.mem_cons] at hj ⊢
    rcases hj with h | h | h | h
    · exact .inr (.inr (.inr (.inl h)))
    · exact .inl h
    · exact .inr (.inl h)
    · exact .inr (.inr (.inr (.inr (.inr h))))
  have hfar : Far (It.box w.heap.size #[] 0) (It.row lo h (.slice a' n' c') ys :: rd r a c code p5 :: It.bytes bh a code :: l) := ⟨.inr hlo, .inl hrs, .inl hbh, FL _ (Nat.le_refl _)⟩
  have T1 := T0.set3Far hfar hw x y z
  exact (T1.turn (l' := rd r a c code p5 :: It.bytes bh a code :: l) (fun j hj => List.mem_cons_of_mem _ hj)).own (T1.rowInts 0 rfl)

theorem own_at {w : World} {base b o : Nat} {zs : List Int} (h : OwnInts w base (some ⟨b, o, none⟩) zs) {i : Nat} (hi : i < zs.length) : w.cell? ⟨b, o + i, none⟩ = some (.int .i64 (zs[i]?.getD 0)) ∧ w.frozen? ⟨b, o + i, none⟩ = false := by
  obtain ⟨_, _, e, hc, hf⟩ := h.2 (by omega)
  cases e
  exact ⟨hc i hi, hf i hi⟩

theorem snoc_all {zs : List Int} {P : Int → Prop} {x : Int} (h : ∀ y ∈ zs, P y) (hx : P x) : ∀ y ∈ zs ++ [x], P y := by
  intro y hy
  rcases List.mem_append.1 hy with h2 | h2
  · exact h y h2
  · simp at h2; subst h2; exact hx

/-- The result is stored, behind an append to the table's slots. -/
theorem some_close2 {w0 w w4 : World} {l : List It} {r bh p5 lo c' m b1 : Nat} {a a' : Option Addr} {c : Nat} {code ys : List Int} {R : It} {cs : Array Value} (S5 : St w0 w4 (rd r a c code p5 :: It.bytes bh a code :: R :: l))
    (hbox : w4.heap[b1]? = some (.cells cs 25 (0, 0))) (hown : w4.ownsRow lo 3 1 (.slice a' m c') ys.length (ys.map (Value.int .i64)))
    (hrs : r + 1 ≤ w.heap.size) (hbh : bh ≤ w.heap.size) (FL : ∀ i : It, w.heap.size ≤ i.lo → Far i l) (hlo : w.heap.size + 1 ≤ lo) (hw : w0.heap.size ≤ w.heap.size) (hb1 : w.heap.size < b1) (v x y z : Value) (wf : World)
    (hwf : wf = (((w4.setCell ⟨b1, 2, none⟩ v).setCell ⟨w.heap.size, 0, none⟩ x).setCell ⟨w.heap.size, 1, none⟩ y).setCell ⟨w.heap.size, 2, none⟩ z) :
    St w0 wf (It.own lo wf.heap.size a' ys :: rd r a c code p5 :: It.bytes bh a code :: l) := by
  subst hwf
  have T0 : St w0 w4 (rd r a c code p5 :: It.bytes bh a code :: l) := S5.turn fun j hj => by
    simp only [List.mem_cons] at hj ⊢
    rcases hj with h | h | h
    · exact .inl h
    · exact .inr (.inl h)
    · exact .inr (.inr (.inr h))
  have hfar : ∀ b, w.heap.size ≤ b → Far (It.box b #[] 0) (rd r a c code p5 :: It.bytes bh a code :: l) := fun b hb => ⟨.inl (Nat.le_trans hrs hb), .inl (Nat.le_trans hbh hb), FL _ hb⟩
  have T1 := T0.setFar (p := ⟨b1, 2, none⟩) (hfar b1 (Nat.le_of_lt hb1)) (by show _ ≤ b1; omega) v
  have T2 := T1.set3Far (hfar _ (Nat.le_refl _)) hw x y z
  have h1 : (w4.setCell ⟨b1, 2, none⟩ v).ownsRow lo 3 1 (.slice a' m c') ys.length (ys.map (Value.int .i64)) :=
    hown.kept (row := some b1) ⟨rfl, rfl, rfl, by simp [World.setCell], fun j _ hj => Below.heap_setCell _ _ _ _ (fun e => hj (by rw [e]))⟩ (.inr (ownsRow_ne hown hbox (by decide)))
  have h2 := ownsRow_setCell_below (ownsRow_setCell_below (ownsRow_setCell_below h1 (a := ⟨w.heap.size, 0, none⟩) (by show w.heap.size < lo; omega) x) (a := ⟨w.heap.size, 1, none⟩) (by show w.heap.size < lo; omega) y) (a := ⟨w.heap.size, 2, none⟩) (by show w.heap.size < lo; omega) z
  exact T2.own (rowInts h2)

theorem drawn_of {T : Tab} (n1 : 1 ≤ T.zs.length) (n2 : T.zs.length ≤ 17) (t1 : -1 ≤ T.t) (t2 : T.t ≤ 16) (q1 : -1 ≤ T.p) (q2 : T.p ≤ 16) (h : ∀ x ∈ T.zs, -3 ≤ x ∧ x ≤ 100) : DrawnB T := ⟨⟨n1, n2⟩, ⟨t1, t2⟩, ⟨q1, q2⟩, h⟩

set_option maxHeartbeats 4000000 in
set_option maxRecDepth 100000 in
theorem l1Some_any {w0 w : World} {l : List It} {r bh : Nat} {a : Option Addr} {c p : Nat} {code : List Int} (S : St w0 w (rd r a c code p :: It.bytes bh a code :: l)) (ho : CodeOk code) (hr : w0.heap.size ≤ r) (hf : Far (rd r a c code p) (It.bytes bh a code :: l)) (hp : p ≤ 600000) :
    Calls Tryz.prog 75 #[.pointer (some ⟨r, 0, none⟩)] w fun e w' => ∃ (T : Tab) (a' : Option Addr) (c' lo p' : Nat), e = .returned (tabV T a' c') ∧ DrawnB T ∧
      p' ≤ p + 2000 ∧ w.heap.size ≤ lo ∧ St w0 w' (It.own lo w'.heap.size a' T.zs :: rd r a c code p' :: It.bytes bh a code :: l) := by
  have hrs : r + 1 ≤ w.heap.size := S.sz 0 rfl
  have hbh : bh ≤ w.heap.size := S.sz 1 rfl
  have FL : Hid (∀ i : It, w.heap.size ≤ i.lo → Far i l) := Lib.hid fun i h => Far.older S (fun j hj => List.mem_cons_of_mem _ (List.mem_cons_of_mem _ hj)) h
  have S1 := (S.alloc #[.int .i64 0, .int .i64 0, .slice none 0 0] 25).push
  have F1 := hf.push (p' := p) (x := It.box w.heap.size #[.int .i64 0, .int .i64 0, .slice none 0 0] 25) (.inl hrs)
  go_enter Tryz.func75, Tryz.ntmps75
  go_wp2_with fail
  refine (l1Fill_any S1 ho hr F1 (by omega)).mono ?_
  rintro e w1 ⟨T, a1, c1, lo1, p1, rfl, ⟨n1, n2⟩, ⟨t1, t2⟩, ⟨q1, q2⟩, hsb, hp1, hlo1, S2⟩
  have SB := Lib.hid hsb
  have W3 : Hid (∀ x ∈ T.zs, -3 ≤ x ∧ x ≤ 100) := Lib.hid fun x hx => by have := hsb x hx; omega
  clear hsb
  rw [World.size_alloc] at hlo1
  have z1 : lo1 < w1.heap.size := S2.rowLt 0 rfl (by omega)
  have S3 := (S2.push.alloc #[.int .i64 T.t, .int .i64 T.p, .slice a1 T.zs.length c1] 25).push
  have F2 : Hid (∀ (p' : Nat) (v : Value) (ys : List Int) (h : Nat) (cs : Array Value), Far (rd r a c code p') (It.bytes bh a code :: It.box w1.heap.size cs 25 :: It.row lo1 h v ys :: It.box w.heap.size #[.int .i64 0, .int .i64 0, .slice none 0 0] 25 :: l)) :=
    Lib.hid fun p' v ys h cs => ⟨hf.1, .inr (by show r + 1 ≤ w1.heap.size; omega), .inr (by show r + 1 ≤ lo1; omega), .inr hrs, Far.same hf.2 p'⟩
  go_wp2_with fail
  refine (pick_any S3 ho hr (F2.out _ _ _ _ _) 24 (by omega) (by omega) (by omega)).mono ?_
  rintro e w2 ⟨k, k0, k1, rfl, S4⟩
  clear S1 S2 S3
  obtain ⟨x0, x1, x2, x3, x4, x5, xz⟩ := facts3 (S4.cells 2 rfl)
  obtain ⟨y0, y1, y2, y3, y4, y5, yz⟩ := facts3 (S4.cells 4 rfl)
  cases e0 : (k == 0)
  · cases e1 : (k == 1)
    · cases e2 : (k == 2)
      · cases e3 : (k == 3)
        · go_wp2_with fail
          refine bodyPost_ret (v := tabV T a1 c1) (by simp [results, Tryz.results75, go_sem, y0, y1, y2]) rfl ?_
          exact ⟨T, a1, c1, lo1, p1 + 1, rfl, drawn_of n1 (by omega) (by omega) (by omega) (by omega) (by omega) W3.out, by omega, by omega, some_close S4 hrs hbh FL.out hlo1 (by omega) _ _ _ _ rfl⟩
        · have S5 := (S4.lit [15, 16, -1] 3).push
          simp only [List.map_cons, List.map_nil] at S5
          have F5 : Far (rd r a c code (p1 + 1)) (It.bytes bh a code :: It.own w2.heap.size (w2.heap.size + 1) (some ⟨w2.heap.size, 0, none⟩) [15, 16, -1] :: It.box w1.heap.size #[.int .i64 T.t, .int .i64 T.p, .slice a1 T.zs.length c1] 25 :: It.row lo1 w1.heap.size (.slice a1 T.zs.length c1) T.zs :: It.box w.heap.size #[.int .i64 0, .int .i64 0, .slice none 0 0] 25 :: l) :=
            ⟨(F2.out 0 .nilIface [] 0 #[]).1, .inr (by show r + 1 ≤ w2.heap.size; omega), Far.same (F2.out 0 _ _ _ _).2 _⟩
          go_wp2_with fail
          refine (num_any S5 ho hr F5 0 3 _ _ _ 3 _ rfl rfl (by simp) (by simp) (by omega)).mono ?_
          rintro e w3 ⟨i, hi, rfl, S6⟩
          obtain ⟨b1, b2⟩ := nth_all (P := fun x => -1 ≤ x ∧ x ≤ 16) (xs := [15, 16, -1]) (by decide) hi
          generalize nth [15, 16, -1] i = x at b1 b2 ⊢
          clear x0 x1 x2 x3 x4 x5 xz y0 y1 y2 y3 y4 y5 yz S5
          obtain ⟨x0, x1, x2, x3, x4, x5, xz⟩ := facts3 (S6.cells 3 rfl)
          obtain ⟨y0, y1, y2, y3, y4, y5, yz⟩ := facts3 (S6.cells 5 rfl)
          have S7 : St w0 w3 (It.box w1.heap.size #[.int .i64 T.t, .int .i64 T.p, .slice a1 T.zs.length c1] 25 :: rd r a c code (p1 + 1 + 1) :: It.bytes bh a code :: It.row lo1 w1.heap.size (.slice a1 T.zs.length c1) T.zs :: It.box w.heap.size #[.int .i64 0, .int .i64 0, .slice none 0 0] 25 :: l) := S6.turn fun j hj => by
            simp only [List.mem_cons] at hj ⊢
            rcases hj with h | h | h | h
            · exact .inr (.inr (.inr (.inl h)))
            · exact .inl h
            · exact .inr (.inl h)
            · exact .inr (.inr (.inr (.inr h)))
          have S8 := ((S7.setBox 1 (.int .i64 x) ⟨.inl (by show r + 1 ≤ w1.heap.size; omega), .inl (by show bh ≤ w1.heap.size; omega), .inl (Nat.le_refl _), .inl (by show w.heap.size + 1 ≤ w1.heap.size; omega), FL.out _ (by show w.heap.size ≤ w1.heap.size; omega)⟩ (by omega))).push
          go_wp2_with fail
          refine bodyPost_ret (v := tabV ⟨T.t, x, T.zs⟩ a1 c1) (by simp [results, Tryz.results75, go_sem, y0, y1, y2]) rfl ?_
          exact ⟨⟨T.t, x, T.zs⟩, a1, c1, lo1, p1 + 1 + 1, rfl, drawn_of n1 (by show T.zs.length ≤ 17; omega) (by show -1 ≤ T.t; omega) (by show T.t ≤ 16; omega) b1 b2 W3.out, by omega, by omega, some_close S8 hrs hbh FL.out hlo1 (by omega) _ _ _ _ rfl⟩
      · have S5 := (S4.lit [15, 16, -1, 0] 3).push
        simp only [List.map_cons, List.map_nil] at S5
        have F5 : Far (rd r a c code (p1 + 1)) (It.bytes bh a code :: It.own w2.heap.size (w2.heap.size + 1) (some ⟨w2.heap.size, 0, none⟩) [15, 16, -1, 0] :: It.box w1.heap.size #[.int .i64 T.t, .int .i64 T.p, .slice a1 T.zs.length c1] 25 :: It.row lo1 w1.heap.size (.slice a1 T.zs.length c1) T.zs :: It.box w.heap.size #[.int .i64 0, .int .i64 0, .slice none 0 0] 25 :: l) :=
          ⟨(F2.out 0 .nilIface [] 0 #[]).1, .inr (by show r + 1 ≤ w2.heap.size; omega), Far.same (F2.out 0 _ _ _ _).2 _⟩
        go_wp2_with fail
        refine (num_any S5 ho hr F5 0 4 _ _ _ 4 _ rfl rfl (by simp) (by simp) (by omega)).mono ?_
        rintro e w3 ⟨i, hi, rfl, S6⟩
        obtain ⟨b1, b2⟩ := nth_all (P := fun x => -1 ≤ x ∧ x ≤ 16) (xs := [15, 16, -1, 0]) (by decide) hi
        generalize nth [15, 16, -1, 0] i = x at b1 b2 ⊢
        clear x0 x1 x2 x3 x4 x5 xz y0 y1 y2 y3 y4 y5 yz S5
        obtain ⟨x0, x1, x2, x3, x4, x5, xz⟩ := facts3 (S6.cells 3 rfl)
        obtain ⟨y0, y1, y2, y3, y4, y5, yz⟩ := facts3 (S6.cells 5 rfl)
        have S7 : St w0 w3 (It.box w1.heap.size #[.int .i64 T.t, .int .i64 T.p, .slice a1 T.zs.length c1] 25 :: rd r a c code (p1 + 1 + 1) :: It.bytes bh a code :: It.row lo1 w1.heap.size (.slice a1 T.zs.length c1) T.zs :: It.box w.heap.size #[.int .i64 0, .int .i64 0, .slice none 0 0] 25 :: l) := S6.turn fun j hj => by
          simp only [List.mem_cons] at hj ⊢
          rcases hj with h | h | h | h
          · exact .inr (.inr (.inr (.inl h)))
          · exact .inl h
          · exact .inr (.inl h)
          · exact .inr (.inr (.inr (.inr h)))
        have S8 := ((S7.setBox 0 (.int .i64 x) ⟨.inl (by show r + 1 ≤ w1.heap.size; omega), .inl (by show bh ≤ w1.heap.size; omega), .inl (Nat.le_refl _), .inl (by show w.heap.size + 1 ≤ w1.heap.size; omega), FL.out _ (by show w.heap.size ≤ w1.heap.size; omega)⟩ (by omega))).push
        go_wp2_with fail
        refine bodyPost_ret (v := tabV ⟨x, T.p, T.zs⟩ a1 c1) (by simp [results, Tryz.results75, go_sem, y0, y1, y2]) rfl ?_
        exact ⟨⟨x, T.p, T.zs⟩, a1, c1, lo1, p1 + 1 + 1, rfl, drawn_of n1 (by show T.zs.length ≤ 17; omega) b1 b2 (by show -1 ≤ T.p; omega) (by show T.p ≤ 16; omega) W3.out, by omega, by omega, some_close S8 hrs hbh FL.out hlo1 (by omega) _ _ _ _ rfl⟩
    · obtain ⟨i0, hi, hz0, hz1, hz2⟩ := info_parts Tryz.info3
      have HI := Lib.hid hi; have HZ0 := Lib.hid hz0; have HZ1 := Lib.hid hz1; have HZ2 := Lib.hid hz2
      clear hi hz0 hz1 hz2
      have S5 := ((S4.lit [5, 1, -1, -2] 3).push).drew
      simp only [List.map_cons, List.map_nil] at S5
      have F5 : Far (rd r a c code (p1 + 1)) (It.bytes bh a code :: It.own w2.heap.size (w2.heap.size + 1) (some ⟨w2.heap.size, 0, none⟩) [5, 1, -1, -2] :: It.box w1.heap.size #[.int .i64 T.t, .int .i64 T.p, .slice a1 T.zs.length c1] 25 :: It.row lo1 w1.heap.size (.slice a1 T.zs.length c1) T.zs :: It.box w.heap.size #[.int .i64 0, .int .i64 0, .slice none 0 0] 25 :: l) :=
        ⟨(F2.out 0 .nilIface [] 0 #[]).1, .inr (by show r + 1 ≤ w2.heap.size; omega), Far.same (F2.out 0 _ _ _ _).2 _⟩
      have FO : Hid (∀ p' : Nat, Far (It.row lo1 w1.heap.size (.slice a1 T.zs.length c1) T.zs) (rd r a c code p' :: It.bytes bh a code :: It.box w1.heap.size #[.int .i64 T.t, .int .i64 T.p, .slice a1 T.zs.length c1] 25 :: It.box w.heap.size #[.int .i64 0, .int .i64 0, .slice none 0 0] 25 :: l)) :=
        Lib.hid fun p' => ⟨.inl (by show r + 1 ≤ lo1; omega), .inl (by show bh ≤ lo1; omega), .inr (Nat.le_refl _), .inl (by show w.heap.size + 1 ≤ lo1; omega), FL.out _ (by show w.heap.size ≤ lo1; omega)⟩
      go_wp2_with fail
      go_region_law
        (first
          | (go_simp; go_at_call 18; refine (num_any S5 ho hr F5 0 4 _ _ _ 4 _ rfl rfl (by simp) (by simp) (by omega)).mono ?_; rintro e w3 ⟨i, hi, rfl, S6⟩; have z6 : w1.heap.size ≤ w3.heap.size := S6.sz 4 rfl; have v2 := (facts3 (S6.cells 3 rfl)).2.2.1; have vz := (facts3 (S6.cells 3 rfl)).2.2.2.2.2.2)
          | (refine step_append_lies _ (by rfl) _ _ _ (by rfl) lo1 3 i0 _ 1 8 Tryz.underlying23 HI.out HZ0.out HZ1.out HZ2.out rfl (by omega) _ _ _ (by rfl) ((S6.rows 4 rfl).alloc _) ⟨w3.heap.size, 0, none⟩ 1 1 [.int .i64 (nth [5, 1, -1, -2] i)] (by rfl) (by rfl) (World.news_of_block (cs := #[.int .i64 (nth [5, 1, -1, -2] i)]) (t := 3) (fr := (0, 0)) (heap_alloc_new w3 _)) (by simp [Value.oneCell']) (by omega) (by unfold maxLen; omega) (by omega) (by simp; omega) (w3.heap.size + 1) (by simp) ?_; intro gg cap w4 hown4 hgrow4 hat4 hlt4; have S7 := (pull_row S6).append (FO.out _) (by omega) _ hown4 hgrow4; have u2 := (facts3 (S7.cells 3 rfl)).2.2.1; have u5 := (facts3 (S7.cells 3 rfl)).2.2.2.2.2.1; have uz := (facts3 (S7.cells 3 rfl)).2.2.2.2.2.2))
      all_goals
        obtain ⟨b1, b2⟩ := nth_all (P := fun x => -3 ≤ x ∧ x ≤ 100) (xs := [5, 1, -1, -2]) (by decide) hi
        generalize nth [5, 1, -1, -2] i = x at b1 b2 S7 ⊢
        obtain ⟨y0, y1, y2, y3, y4, y5, yz⟩ := facts3 (S7.cells 4 rfl)
        clear x0 x1 x2 x3 x4 x5 xz v2 vz
        obtain ⟨x0, x1, x2, x3, x4, x5, xz⟩ := facts3 (S7.cells 3 rfl)
        have HB := Lib.hid (S7.cells 3 rfl)
        have HR := Lib.hid (S7.rows 0 rfl)
        have S8 : St w0 w4 (rd r a c code (p1 + 1 + 1) :: It.bytes bh a code :: It.box w.heap.size #[.int .i64 0, .int .i64 0, .slice none 0 0] 25 :: l) := S7.turn fun j hj => by
          simp only [List.mem_cons] at hj ⊢
          rcases hj with h | h | h | h
          · exact .inr (.inl h)
          · exact .inr (.inr (.inl h))
          · exact .inr (.inr (.inr (.inr (.inl h))))
          · exact .inr (.inr (.inr (.inr (.inr h))))
        clear hown4 hgrow4 hat4 hlt4 u2 u5 uz
        go_wp2
        refine bodyPost_ret (v := .agg #[.int .i64 T.t, .int .i64 T.p, .slice (some ⟨gg, 0, none⟩) (T.zs.length + 1) cap]) (by simp [results, Tryz.results75, go_sem, y0, y1, y2]) rfl ?_
        exact ⟨⟨T.t, T.p, T.zs ++ [x]⟩, some ⟨gg, 0, none⟩, cap, lo1, p1 + 1 + 1, by simp [tabV], drawn_of (by simp) (by simp; omega) (by show -1 ≤ T.t; omega) (by show T.t ≤ 16; omega) (by show -1 ≤ T.p; omega) (by show T.p ≤ 16; omega) (snoc_all W3.out ⟨b1, b2⟩), by omega, by omega, some_close2 S8 HB.out HR.out hrs hbh FL.out hlo1 (by omega) (by omega) _ _ _ _ _ rfl⟩
  · obtain ⟨b, o, rfl, _, _⟩ := (S4.rowInts 3 rfl).2 (by omega)
    have S5 := S4.drew
    have F7 : Hid (∀ (q' lo' hi' : Nat) (a' : Option Addr), r + 1 ≤ lo' → Far (rd r a c code q') (It.bytes bh a code :: It.own lo' hi' a' [-3, 100, 99, 0] :: It.box w1.heap.size #[.int .i64 T.t, .int .i64 T.p, .slice (some ⟨b, o, none⟩) T.zs.length c1] 25 :: It.row lo1 w1.heap.size (.slice (some ⟨b, o, none⟩) T.zs.length c1) T.zs :: It.box w.heap.size #[.int .i64 0, .int .i64 0, .slice none 0 0] 25 :: l)) :=
      Lib.hid fun q' lo' hi' a' h3 => ⟨(F2.out 0 .nilIface [] 0 #[]).1, .inr h3, Far.same (F2.out 0 _ _ _ _).2 _⟩
    have S5b := ((S4.lit [-3, 100, 99, 0] 3).push).drew
    simp only [List.map_cons, List.map_nil] at S5b
    have FO : Hid (∀ p' : Nat, Far (It.row lo1 w1.heap.size (.slice (some ⟨b, o, none⟩) T.zs.length c1) T.zs) (rd r a c code p' :: It.bytes bh a code :: It.box w1.heap.size #[.int .i64 T.t, .int .i64 T.p, .slice (some ⟨b, o, none⟩) T.zs.length c1] 25 :: It.box w.heap.size #[.int .i64 0, .int .i64 0, .slice none 0 0] 25 :: l)) :=
      Lib.hid fun p' => ⟨.inl (by show r + 1 ≤ lo1; omega), .inl (by show bh ≤ lo1; omega), .inr (Nat.le_refl _), .inl (by show w.heap.size + 1 ≤ lo1; omega), FL.out _ (by show w.heap.size ≤ lo1; omega)⟩
    go_wp2_with fail
    go_region_held3 (fun w' => w'.cell? ⟨w1.heap.size, 2, none⟩ = some (.slice (some ⟨b, o, none⟩) T.zs.length c1))
      (first
        | exact x2
        | exact (facts3 (S6.cells 2 rfl)).2.2.1
        | exact (facts3 (S7.cells 3 rfl)).2.2.1
        | exact (facts3 (S8.cells 3 rfl)).2.2.1
        | exact (facts3 (S9.cells 3 rfl)).2.2.1
        | go_keep)
      (first
        | (go_at_call 14; refine (pick_any S5 ho hr (F2.out _ _ _ _ _) _ (by omega) (by omega) (by omega)).mono ?_; rintro e w3 ⟨i, i0, i1, rfl, S6⟩; obtain ⟨i, rfl⟩ : ∃ m : Nat, i = m := ⟨i.toNat, by omega⟩; have z6 : w1.heap.size ≤ w3.heap.size := S6.sz 3 rfl; have S7 := (S6.lit [-3, 100, 99, 0] 3).push; simp only [List.map_cons, List.map_nil] at S7)
        | (go_at_call 14; refine (pick_any S5b ho hr (F7.out _ _ _ _ (by omega)) _ (by omega) (by omega) (by omega)).mono ?_; rintro e w3 ⟨i, i0, i1, rfl, S7⟩; obtain ⟨i, rfl⟩ : ∃ m : Nat, i = m := ⟨i.toNat, by omega⟩; have z6 : w1.heap.size ≤ w3.heap.size := S7.sz 4 rfl)
        | (go_at_call 18; refine (num_any S7 ho hr (F7.out _ _ _ _ (by omega)) 0 4 _ _ _ 4 _ rfl rfl (by simp) (by simp) (by omega)).mono ?_; rintro e w4 ⟨j, hj, rfl, S8⟩; have hil : i < T.zs.length := (by omega); obtain ⟨r1, r2⟩ := own_at (S8.rowInts 4 rfl) hil; have S9 := (pull_row S8).store i hil (FO.out _) (by omega) (nth [-3, 100, 99, 0] j)))
    all_goals
      obtain ⟨b1, b2⟩ := nth_all (P := fun x => -3 ≤ x ∧ x ≤ 100) (xs := [-3, 100, 99, 0]) (by decide) hj
      generalize nth [-3, 100, 99, 0] j = x at b1 b2 S9 ⊢
      clear x0 x1 x2 x3 x4 x5 xz y0 y1 y2 y3 y4 y5 yz r1 r2 S8 S7 S5 S4
      obtain ⟨x0, x1, x2, x3, x4, x5, xz⟩ := facts3 (S9.cells 3 rfl)
      obtain ⟨y0, y1, y2, y3, y4, y5, yz⟩ := facts3 (S9.cells 4 rfl)
      have S10 : St w0 _ (rd r a c code (p1 + 1 + 1 + 1) :: It.bytes bh a code :: It.box w1.heap.size #[.int .i64 T.t, .int .i64 T.p, .slice (some ⟨b, o, none⟩) T.zs.length c1] 25 :: It.row lo1 w1.heap.size (.slice (some ⟨b, o, none⟩) T.zs.length c1) (T.zs.set i x) :: It.box w.heap.size #[.int .i64 0, .int .i64 0, .slice none 0 0] 25 :: l) := S9.turn fun j hj => by
        simp only [List.mem_cons] at hj ⊢
        rcases hj with h | h | h | h
        · exact .inr (.inl h)
        · exact .inr (.inr (.inl h))
        · exact .inr (.inr (.inr (.inl h)))
        · rcases h with h | h
          · exact .inl h
          · exact .inr (.inr (.inr (.inr h)))
      go_wp2
      refine bodyPost_ret (v := .agg #[.int .i64 T.t, .int .i64 T.p, .slice (some ⟨b, o, none⟩) T.zs.length c1]) (by simp [results, Tryz.results75, go_sem, y0, y1, y2]) rfl ?_
      exact ⟨⟨T.t, T.p, T.zs.set i x⟩, some ⟨b, o, none⟩, c1, lo1, p1 + 1 + 1 + 1, by simp [tabV], drawn_of (by simp; omega) (by simp; omega) (by show -1 ≤ T.t; omega) (by show T.t ≤ 16; omega) (by show -1 ≤ T.p; omega) (by show T.p ≤ 16; omega) (set_all W3.out i ⟨b1, b2⟩), by omega, by omega, some_close S10 hrs hbh FL.out hlo1 (by omega) _ _ _ _ rfl⟩

end Go.Proofs.YtkdkdmjhhgllgaaGreatDoor

namespace Go.Proofs.YtkdkdmjhhgllgaaGreatDoor
open Go.RowKit

theorem NumsAt.take {k : IntKind} {w : World} {a : Option Addr} {zs : List Int} (h : NumsAt k w a zs) (n : Nat) : NumsAt k w a (zs.take n) := fun h0 => by
  simp only [List.length_take] at h0
  obtain ⟨b, o, e, hc⟩ := h (by omega)
  refine ⟨b, o, e, fun j hj => ?_⟩
  simp only [List.length_take] at hj
  rw [hc j (by omega), List.getElem?_take_of_lt (by omega)]

set_option maxHeartbeats 2000000 in
theorem l14Open_any {w0 w : World} {l : List It} (S : St w0 w l) (a : Option Addr) (c : Nat) (code : List Int) (h : NumsAt .u8 w a code) (hb : 0 < code.length → ∀ q, a = some q → q.block < w.heap.size) (hc : code.length ≤ c) (hc2 : c ≤ 9223372036854775807) (hy : ∀ i, 0 ≤ nth code i ∧ nth code i ≤ 255) :
    Calls Tryz.prog 12 #[.slice a code.length c] w fun e w' => ∃ r, e = .returned (.pointer (some ⟨r, 0, none⟩)) ∧ w.heap.size ≤ r ∧ CodeOk (code.take 2000) ∧
      St w0 w' (rd r a c (code.take 2000) 0 :: It.bytes w.heap.size a (code.take 2000) :: l) := by
  have ok : CodeOk (code.take 2000) := ⟨by simp; omega, fun i => by
    unfold nth
    by_cases hi : i < 2000
    · have := hy i
      unfold nth at this
      rw [List.getElem?_take_of_lt hi]
      exact this
    · simp [List.getElem?_take, hi]⟩
  have S1 := S.add (It.bytes w.heap.size a (code.take 2000)) (Nat.le_refl _) ⟨h.take 2000, fun h0 => hb (by simp at h0; omega)⟩
  have S2 := S1.alloc #[.slice a (code.take 2000).length c, .int .i64 0] 87
  go_enter Tryz.func12, Tryz.ntmps12
  by_cases hl : 2000 < code.length
  · have el : (code.take 2000).length = 2000 := by simp; omega
    rw [el] at S2
    have t0 : decide (2000 < (code.length : Int)) = true := decide_eq_true (by omega)
    have t1 : decide (2000 < code.length) = true := decide_eq_true (by omega)
    go_wp2
    go_ret
    exact ⟨_, rfl, Nat.le_refl _, ok, by unfold rd; rw [el]; exact S2⟩
  · have el : (code.take 2000).length = code.length := by simp; omega
    rw [el] at S2
    have t0 : decide (2000 < (code.length : Int)) = false := decide_eq_false (by omega)
    have t1 : decide (2000 < code.length) = false := decide_eq_false (by omega)
    go_wp2
    go_ret
    exact ⟨_, rfl, Nat.le_refl _, ok, by unfold rd; rw [el]; exact S2⟩

end Go.Proofs.YtkdkdmjhhgllgaaGreatDoor

namespace Go.Proofs.YtkdkdmjhhgllgaaGreatDoor
open Go.RowKit

/-- Bytes that came in, as lists. -/
structure Came (c : Nat) (code : List Int) : Prop where
  cap : code.length ≤ c
  cap2 : c ≤ 9223372036854775807
  byte : ∀ i, 0 ≤ nth code i ∧ nth code i ≤ 255

theorem Came.open {w0 w : World} {l : List It} {a : Option Addr} {c bh : Nat} {code : List Int} (S : St w0 w (It.bytes bh a code :: l)) (h : Came c code) :
    Calls Tryz.prog 12 #[.slice a code.length c] w fun e w' => ∃ r, e = .returned (.pointer (some ⟨r, 0, none⟩)) ∧ w.heap.size ≤ r ∧ CodeOk (code.take 2000) ∧
      Far (rd r a c (code.take 2000) 0) (It.bytes w.heap.size a (code.take 2000) :: l) ∧
      St w0 w' (rd r a c (code.take 2000) 0 :: It.bytes w.heap.size a (code.take 2000) :: l) := by
  have hN := (S.get 0 rfl : (It.bytes bh a code).P w)
  have hz : bh ≤ w.heap.size := (S.all _ (List.mem_cons_self ..)).1
  have hb : 0 < code.length → ∀ q, a = some q → q.block < w.heap.size := fun h0 q e => Nat.lt_of_lt_of_le (hN.2 h0 q e) hz
  have Sl : St w0 w l := S.turn fun i hi => List.mem_cons_of_mem _ hi
  refine (l14Open_any Sl a c code hN.1 hb h.cap h.cap2 h.byte).mono ?_
  rintro e w' ⟨r, rfl, hr, ok, S1⟩
  have S0 := Sl.add (It.bytes w.heap.size a (code.take 2000)) (Nat.le_refl _) ⟨hN.1.take 2000, fun h0 => hb (by simp at h0; omega)⟩
  exact ⟨r, rfl, hr, ok, Far.older S0 (fun _ hj => hj) hr, S1⟩

end Go.Proofs.YtkdkdmjhhgllgaaGreatDoor

namespace Go.Proofs.YtkdkdmjhhgllgaaGreatDoor
open Go.RowKit

/-- Bytes that came in are what the draws ask. -/
theorem came_of {w : World} {a : Option Addr} {len cap : Nat} {zs : List Int} (h : IsRow .u8 w a len cap zs) :
    ∃ ys : List Int, len = ys.length ∧ Came cap ys ∧ St w w [It.bytes w.heap.size a ys] := by
  have hlc : len ≤ cap ∧ cap ≤ maxLen := by
    rcases h with ⟨_, h1, h2, _⟩ | ⟨_, _, h1, h2, _⟩
    · exact ⟨by omega, by unfold maxLen; omega⟩
    · exact ⟨h1, h2⟩
  obtain ⟨ys, rfl, hN, hl, hw⟩ := row_nums h
  unfold maxLen at hlc
  refine ⟨ys, rfl, ⟨hlc.1, hlc.2, fun i => ?_⟩, (St.start w).add _ (Nat.le_refl _) ⟨hN, fun h0 p hp => ?_⟩⟩
  · by_cases hi : i < ys.length
    · have := hw _ (List.getElem_mem hi)
      rw [nth, List.getElem?_eq_getElem hi]
      simp only [Lit.wf, Bool.and_eq_true, decide_eq_true_eq] at this
      exact this
    · simp [nth, show ys.length ≤ i by omega]
  · obtain ⟨b, o, e, hc⟩ := hN h0
    rw [hp] at e; cases e
    exact World.block_lt_of_cell? w _ (hc 0 h0)

end Go.Proofs.YtkdkdmjhhgllgaaGreatDoor

namespace Go.Proofs.YtkdkdmjhhgllgaaGreatDoor
open Go.RowKit

theorem ownsRow_pos {w : World} {base : Nat} {e : TypeId} {size : Nat} {v : Value} {n : Nat} {xs : List Value} (h : w.ownsRow base e size v n xs) (h0 : 0 < n) : ∃ g cap, v = .slice (some ⟨g, 0, none⟩) n cap := by
  rcases h.2 with ⟨_, h1⟩ | ⟨g, cap, cur, rfl, _⟩
  · omega
  · exact ⟨g, cap, rfl⟩

theorem ownsRow_cap {w : World} {base : Nat} {e : TypeId} {size : Nat} {a : Option Addr} {m c n : Nat} {xs : List Value} (h : w.ownsRow base e size (.slice a m c) n xs) : n ≤ c := by
  rcases h.2 with ⟨hv, h1⟩ | ⟨g, cap, cur, hv, _, _, h1, _⟩
  · omega
  · simp only [Value.slice.injEq] at hv
    omega

set_option maxHeartbeats 2000000 in
theorem l1Copy_cap (T : Tab) (a : Option Addr) (c : Nat) (w : World) (h1 : 1 ≤ T.zs.length) (hn : T.zs.length ≤ 100) (h : IntsAt w a T.zs) :
    Calls Tryz.prog 25 #[tabV T a c] w fun e w' => ∃ g c', e = .returned (tabV T (some ⟨g, 0, none⟩) c') ∧ T.zs.length ≤ c' ∧ OwnInts w' w.heap.size (some ⟨g, 0, none⟩) T.zs ∧ Below w.heap.size w w' := by
  obtain ⟨i0, hi, hz0, hz1, hz2⟩ := info_parts Tryz.info3
  have HI := Lib.hid hi; have HZ0 := Lib.hid hz0; have HZ1 := Lib.hid hz1; have HZ2 := Lib.hid hz2
  clear hi hz0 hz1 hz2
  have S0 := (((St.start w).read h).alloc #[.int .i64 T.t, .int .i64 T.p, .slice a T.zs.length c] 25).alloc #[.int .i64 0, .int .i64 0, .slice none 0 0] 25
  rw [World.size_alloc] at S0
  obtain ⟨b, o, rfl, hc⟩ := h (by omega)
  have hown := row_start ((w.alloc (.cells #[.int .i64 T.t, .int .i64 T.p, .slice (some ⟨b, o, none⟩) T.zs.length c] 25)).alloc (.cells #[.int .i64 0, .int .i64 0, .slice none 0 0] 25))
  have S1 := S0.below ((Below.refl _ _).alloc (Nat.le_refl _) (.cells #[] 3))
  simp only [World.size_alloc] at hown S1
  have hc2 : Hid (∀ (j : Nat) (u : Value), (T.zs.map (Value.int .i64))[j]? = some u → (((w.alloc (.cells #[.int .i64 T.t, .int .i64 T.p, .slice (some ⟨b, o, none⟩) T.zs.length c] 25)).alloc (.cells #[.int .i64 0, .int .i64 0, .slice none 0 0] 25)).alloc (.cells #[] 3)).cell? ((⟨b, o, none⟩ : Addr).add j) = some u) := Lib.hid (by
    intro j u hj
    have hj' : j < T.zs.length := by have := (List.getElem?_eq_some_iff.1 hj).1; simpa using this
    obtain ⟨b', o', e, h5⟩ := (S1.reads 2 rfl) (by omega)
    cases e
    rw [List.getElem?_map, List.getElem?_eq_getElem hj'] at hj
    have h6 := h5 j hj'
    rw [List.getElem?_eq_getElem hj'] at h6
    simp at hj h6
    rw [show (⟨b, o, none⟩ : Addr).add j = ⟨b, o + j, none⟩ by simp [Addr.add], h6, hj])
  have HO := Lib.hid hown
  clear hown hc
  go_enter Tryz.func25, Tryz.ntmps25
  go_wp2_with (at_builtin; refine wpList_append_own _ rfl _ _ 23 rfl (w.heap.size + 1 + 1) 3 i0 (.int .i64 0) 1 8 Tryz.underlying23 HI.out HZ0.out HZ1.out HZ2.out rfl (by decide) _ _ _ rfl HO.out ⟨b, o, none⟩ T.zs.length c (T.zs.map (Value.int .i64)) rfl (by simp) hc2.out (by intro u hu; obtain ⟨x, _, rfl⟩ := List.mem_map.1 hu; rfl) (by unfold maxLen; omega) (by omega) (by simp) ?_)
  intro v' w5 hown5 hg5 _
  obtain ⟨g, c', rfl⟩ := ownsRow_pos hown5 (by omega)
  have hcap := Lib.hid (ownsRow_cap hown5)
  have e0 : w5.heap[w.heap.size]? = _ := (hg5.block _ (by simp; omega) (by simp [Value.ownBlock]; omega)).trans (S1.cells 1 rfl)
  have e1 : w5.heap[w.heap.size + 1]? = _ := (hg5.block _ (by simp) (by simp [Value.ownBlock])).trans (S1.cells 0 rfl)
  have e2 := setCell_at e0 2 (.slice (some ⟨g, 0, none⟩) T.zs.length c')
  have B5 : Hid (Below w.heap.size w w5) := Lib.hid (S1.old.trans (grownBy_below hg5 (by simp; omega) (fun k e => by simp [Value.ownBlock] at e; omega)))
  have HO5 := Lib.hid (ownsRow_ints hown5)
  have hz5 := hg5.size
  simp only [World.size_alloc] at hz5
  obtain ⟨x0, x1, x2, x3, x4, x5, xz⟩ := facts3 e0
  obtain ⟨y0, y1, y2, y3, y4, y5, yz⟩ := facts3 e1
  clear hown5 hg5 e0 e1 e2 S0 S1 HO hc2
  go_wp2
  refine bodyPost_ret (v := tabV T (some ⟨g, 0, none⟩) c') (by simp [results, Tryz.results25, go_sem, x0, x1, x2, x3, x4, x5, y0, y1, y2, y3, y4, y5]) rfl ⟨g, c', rfl, hcap.out, ?_, ?_⟩
  · exact ((((HO5.out.setOther (p := ⟨w.heap.size, 2, none⟩) (by simp; omega) _).setOther (p := ⟨w.heap.size + 1, 0, none⟩) (by simp) _).setOther (p := ⟨w.heap.size + 1, 1, none⟩) (by simp) _).setOther (p := ⟨w.heap.size + 1, 2, none⟩) (by simp) _).mono (by omega)
  · exact set3 (B5.out.setCell (p := ⟨w.heap.size, 2, none⟩) (Nat.le_refl _) _) (by omega) _ _ _

theorem l1Copy_any (T : Tab) (a : Option Addr) (c : Nat) (w : World) (h1 : 1 ≤ T.zs.length) (hn : T.zs.length ≤ 100) (h : IntsAt w a T.zs) :
    Calls Tryz.prog 25 #[tabV T a c] w fun e w' => ∃ g c', e = .returned (tabV T (some ⟨g, 0, none⟩) c') ∧ OwnInts w' w.heap.size (some ⟨g, 0, none⟩) T.zs ∧ Below w.heap.size w w' := by
  refine (l1Copy_cap T a c w h1 hn h).mono ?_
  rintro e w' ⟨g, c', rfl, _, k⟩
  exact ⟨g, c', rfl, k⟩

end Go.Proofs.YtkdkdmjhhgllgaaGreatDoor

namespace Go.Proofs.YtkdkdmjhhgllgaaGreatDoor
open Go.RowKit
end Go.Proofs.YtkdkdmjhhgllgaaGreatDoor

namespace Go.Proofs.YtkdkdmjhhgllgaaGreatDoor
open Go.RowKit

/-- Two tables of the call's own. -/
def TwoTabs (w0 : World) (l : List It) (e : Ending) (w' : World) : Prop :=
  ∃ (A B : Tab) (a b : Option Addr) (c d lo hi lo2 hi2 : Nat), e = .returned (.tuple #[tabV A a c, tabV B b d]) ∧ (1 ≤ A.zs.length ∧ A.zs.length ≤ 17) ∧ (1 ≤ B.zs.length ∧ B.zs.length ≤ 17) ∧
    St w0 w' (It.own lo hi a A.zs :: It.own lo2 hi2 b B.zs :: l)

theorem St.storeOwn {w0 w : World} {l : List It} {lo hi g : Nat} {zs : List Int} (h : St w0 w l) (n i : Nat) (hi' : i < zs.length) (hn : l[n]? = some (It.own lo hi (some ⟨g, 0, none⟩) zs)) (hf : Far (It.own lo hi (some ⟨g, 0, none⟩) zs) (l.eraseIdx n)) (hlo : w0.heap.size ≤ lo) (v : Int) :
    St w0 (w.setCell ⟨g, i, none⟩ (.int .i64 v)) (l.set n (It.own lo hi (some ⟨g, 0, none⟩) (zs.set i v))) := by
  have h5 := (h.owns n hn).set i hi' v
  rw [Nat.zero_add] at h5
  exact h.markAt (a := some ⟨g, 0, none⟩) (w' := w.setCell ⟨g, i, none⟩ (.int .i64 v)) ⟨rfl, rfl, rfl, by simp [World.setCell], fun k _ hk => Below.heap_setCell w ⟨g, i, none⟩ _ k (fun e => hk (by rw [e]; rfl))⟩ h5 n hn hf hlo

theorem St.set6 {w0 w : World} {l : List It} {b b2 : Nat} (h : St w0 w l) (hf : Far (It.box b #[] 0) l) (hf2 : Far (It.box b2 #[] 0) l) (hlo : w0.heap.size ≤ b) (hlo2 : w0.heap.size ≤ b2) (x y z x' y' z' : Value) :
    St w0 ((((((w.setCell ⟨b, 0, none⟩ x).setCell ⟨b, 1, none⟩ y).setCell ⟨b, 2, none⟩ z).setCell ⟨b2, 0, none⟩ x').setCell ⟨b2, 1, none⟩ y').setCell ⟨b2, 2, none⟩ z') l :=
  (h.set3Far hf hlo x y z).set3Far hf2 hlo2 x' y' z'

end Go.Proofs.YtkdkdmjhhgllgaaGreatDoor

/-
  What chapter 1's draws make: l1Some.
-/
import Derived.Test.YtpncpeokdcolpaaDraw3
import Derived.Deep.RegionHeld3
import Derived.Deep.AppendLies
namespace Go.Proofs.Ytpncpeokdcolpaa
open Go.RowKit

/-- What a drawn table is like. -/
structure DrawnB (T : Tab) : Prop where
  len : 1 ≤ T.zs.length ∧ T.zs.length ≤ 17
  t : -1 ≤ T.t ∧ T.t ≤ 16
  p : -1 ≤ T.p ∧ T.p ≤ 16
  zs : ∀ x ∈ T.zs, -3 ≤ x ∧ x ≤ 100

theorem set_all {zs : List Int} {P : Int → Prop} {x : Int} (h : ∀ y ∈ zs, P y) (i : Nat) (hx : P x) : ∀ y ∈ zs.set i x, P y := by
  intro y hy
  rcases List.mem_or_eq_of_mem_set hy with h2 | rfl
  · exact h y h2
  · exact hx

/-- A store into a block of cells. -/
theorem St.setBox {w0 w : World} {l : List It} {b : Nat} {c : Array Value} {t : TypeId} (h : St w0 w (It.box b c t :: l)) (o : Nat) (v : Value) (hf : Far (It.box b c t) l) (hlo : w0.heap.size ≤ b) : St w0 (w.setCell ⟨b, o, none⟩ v) (It.box b (c.setIfInBounds o v) t :: l) := by
  refine h.write (row := some b) ⟨rfl, rfl, rfl, by simp [World.setCell], fun k _ hk => Below.heap_setCell w _ _ k (fun e => hk (by rw [e]))⟩ (fun k e => by cases e; exact ⟨Nat.le_refl _, Nat.lt_succ_self _⟩) hf hlo ?_ (setCell_at (h.cells 0 rfl) o v)
  have h3 : b + 1 ≤ w.heap.size := h.sz 0 rfl
  show b + 1 ≤ (w.setCell _ _).heap.size
  simpa [World.setCell] using h3

theorem pull_row {w0 w : World} {l : List It} {i j k m n o : It} (h : St w0 w (i :: j :: k :: m :: n :: o :: l)) : St w0 w (n :: i :: j :: m :: o :: l) := h.turn fun x hx => by
  simp only [List.mem_cons] at hx ⊢
  rcases hx with h | h | h | h | h | h
  · exact .inr (.inr (.inr (.inr (.inl h))))
  · exact .inl h
  · exact .inr (.inl h)
  · exact .inr (.inr (.inr (.inl h)))
  · exact .inr (.inr (.inr (.inr (.inr (.inl h)))))
  · exact .inr (.inr (.inr (.inr (.inr (.inr h)))))

/-- The result is stored. -/
theorem some_close {w0 w w5 : World} {l : List It} {r bh p5 lo h c' n' : Nat} {a a' : Option Addr} {c : Nat} {code ys : List Int} {B R : It} (S5 : St w0 w5 (rd r a c code p5 :: It.bytes bh a code :: B :: It.row lo h (.slice a' n' c') ys :: R :: l))
    (hrs : r + 1 ≤ w.heap.size) (hbh : bh ≤ w.heap.size) (FL : ∀ i : It, w.heap.size ≤ i.lo → Far i l) (hlo : w.heap.size + 1 ≤ lo) (hw : w0.heap.size ≤ w.heap.size) (x y z : Value) (wf : World)
    (hwf : wf = ((w5.setCell ⟨w.heap.size, 0, none⟩ x).setCell ⟨w.heap.size, 1, none⟩ y).setCell ⟨w.heap.size, 2, none⟩ z) :
    St w0 wf (It.own lo wf.heap.size a' ys :: rd r a c code p5 :: It.bytes bh a code :: l) := by
  subst hwf
  have T0 : St w0 w5 (It.row lo h (.slice a' n' c') ys :: rd r a c code p5 :: It.bytes bh a code :: l) := S5.turn fun j hj => by
    simp only [List.mem_cons] at hj ⊢
    rcases hj with h | h | h | h
    · exact .inr (.inr (.inr (.inl h)))
    · exact .inl h
    · exact .inr (.inl h)
    · exact .inr (.inr (.inr (.inr (.inr h))))
  have hfar : Far (It.box w.heap.size #[] 0) (It.row lo h (.slice a' n' c') ys :: rd r a c code p5 :: It.bytes bh a code :: l) := ⟨.inr hlo, .inl hrs, .inl hbh, FL _ (Nat.le_refl _)⟩
  have T1 := T0.set3Far hfar hw x y z
  exact (T1.turn (l' := rd r a c code p5 :: It.bytes bh a code :: l) (fun j hj => List.mem_cons_of_mem _ hj)).own (T1.rowInts 0 rfl)

theorem own_at {w : World} {base b o : Nat} {zs : List Int} (h : OwnInts w base (some ⟨b, o, none⟩) zs) {i : Nat} (hi : i < zs.length) : w.cell? ⟨b, o + i, none⟩ = some (.int .i64 (zs[i]?.getD 0)) ∧ w.frozen? ⟨b, o + i, none⟩ = false := by
  obtain ⟨_, _, e, hc, hf⟩ := h.2 (by omega)
  cases e
  exact ⟨hc i hi, hf i hi⟩

theorem snoc_all {zs : List Int} {P : Int → Prop} {x : Int} (h : ∀ y ∈ zs, P y) (hx : P x) : ∀ y ∈ zs ++ [x], P y := by
  intro y hy
  rcases List.mem_append.1 hy with h2 | h2
  · exact h y h2
  · simp at h2; subst h2; exact hx

/-- The result is stored, behind an append to the table's slots. -/
theorem some_close2 {w0 w w4 : World} {l : List It} {r bh p5 lo c' m b1 : Nat} {a a' : Option Addr} {c : Nat} {code ys : List Int} {R : It} {cs : Array Value} (S5 : St w0 w4 (rd r a c code p5 :: It.bytes bh a code :: R :: l))
    (hbox : w4.heap[b1]? = some (.cells cs 27 (0, 0))) (hown : w4.ownsRow lo 3 1 (.slice a' m c') ys.length (ys.map (Value.int .i64)))
    (hrs : r + 1 ≤ w.heap.size) (hbh : bh ≤ w.heap.size) (FL : ∀ i : It, w.heap.size ≤ i.lo → Far i l) (hlo : w.heap.size + 1 ≤ lo) (hw : w0.heap.size ≤ w.heap.size) (hb1 : w.heap.size < b1) (v x y z : Value) (wf : World)
    (hwf : wf = (((w4.setCell ⟨b1, 2, none⟩ v).setCell ⟨w.heap.size, 0, none⟩ x).setCell ⟨w.heap.size, 1, none⟩ y).setCell ⟨w.heap.size, 2, none⟩ z) :
    St w0 wf (It.own lo wf.heap.size a' ys :: rd r a c code p5 :: It.bytes bh a code :: l) := by
  subst hwf
  have T0 : St w0 w4 (rd r a c code p5 :: It.bytes bh a code :: l) := S5.turn fun j hj => by
    simp only [List.mem_cons] at hj ⊢
    rcases hj with h | h | h
    · exact .inl h
    · exact .inr (.inl h)
    · exact .inr (.inr (.inr h))
  have hfar : ∀ b, w.heap.size ≤ b → Far (It.box b #[] 0) (rd r a c code p5 :: It.bytes bh a code :: l) := fun b hb => ⟨.inl (Nat.le_trans hrs hb), .inl (Nat.le_trans hbh hb), FL _ hb⟩
  have T1 := T0.setFar (p := ⟨b1, 2, none⟩) (hfar b1 (Nat.le_of_lt hb1)) (by show _ ≤ b1; omega) v
  have T2 := T1.set3Far (hfar _ (Nat.le_refl _)) hw x y z
  have h1 : (w4.setCell ⟨b1, 2, none⟩ v).ownsRow lo 3 1 (.slice a' m c') ys.length (ys.map (Value.int .i64)) :=
    hown.kept (row := some b1) ⟨rfl, rfl, rfl, by simp [World.setCell], fun j _ hj => Below.heap_setCell _ _ _ _ (fun e => hj (by rw [e]))⟩ (.inr (ownsRow_ne hown hbox (by decide)))
  have h2 := ownsRow_setCell_below (ownsRow_setCell_below (ownsRow_setCell_below h1 (a := ⟨w.heap.size, 0, none⟩) (by show w.heap.size < lo; omega) x) (a := ⟨w.heap.size, 1, none⟩) (by show w.heap.size < lo; omega) y) (a := ⟨w.heap.size, 2, none⟩) (by show w.heap.size < lo; omega) z
  exact T2.own (rowInts h2)

theorem drawn_of {T : Tab} (n1 : 1 ≤ T.zs.length) (n2 : T.zs.length ≤ 17) (t1 : -1 ≤ T.t) (t2 : T.t ≤ 16) (q1 : -1 ≤ T.p) (q2 : T.p ≤ 16) (h : ∀ x ∈ T.zs, -3 ≤ x ∧ x ≤ 100) : DrawnB T := ⟨⟨n1, n2⟩, ⟨t1, t2⟩, ⟨q1, q2⟩, h⟩

set_option maxHeartbeats 4000000 in
set_option maxRecDepth 100000 in
theorem l1Some_any {w0 w : World} {l : List It} {r bh : Nat} {a : Option Addr} {c p : Nat} {code : List Int} (S : St w0 w (rd r a c code p :: It.bytes bh a code :: l)) (ho : CodeOk code) (hr : w0.heap.size ≤ r) (hf : Far (rd r a c code p) (It.bytes bh a code :: l)) (hp : p ≤ 600000) :
    Calls Try.prog 68 #[.pointer (some ⟨r, 0, none⟩)] w fun e w' => ∃ (T : Tab) (a' : Option Addr) (c' lo p' : Nat), e = .returned (tabV T a' c') ∧ DrawnB T ∧
      p' ≤ p + 2000 ∧ w.heap.size ≤ lo ∧ St w0 w' (It.own lo w'.heap.size a' T.zs :: rd r a c code p' :: It.bytes bh a code :: l) := by
  have hrs : r + 1 ≤ w.heap.size := S.sz 0 rfl
  have hbh : bh ≤ w.heap.size := S.sz 1 rfl
  have FL : Hid (∀ i : It, w.heap.size ≤ i.lo → Far i l) := Lib.hid fun i h => Far.older S (fun j hj => List.mem_cons_of_mem _ (List.mem_cons_of_mem _ hj)) h
  have S1 := (S.alloc #[.int .i64 0, .int .i64 0, .slice none 0 0] 27).push
  have F1 := hf.push (p' := p) (x := It.box w.heap.size #[.int .i64 0, .int .i64 0, .slice none 0 0] 27) (.inl hrs)
  go_enter Try.func68, Try.ntmps68
  go_wp2_with fail
  refine (l1Fill_any S1 ho hr F1 (by omega)).mono ?_
  rintro e w1 ⟨T, a1, c1, lo1, p1, rfl, ⟨n1, n2⟩, ⟨t1, t2⟩, ⟨q1, q2⟩, hsb, hp1, hlo1, S2⟩
  have SB := Lib.hid hsb
  have W3 : Hid (∀ x ∈ T.zs, -3 ≤ x ∧ x ≤ 100) := Lib.hid fun x hx => by have := hsb x hx; omega
  clear hsb
  rw [World.size_alloc] at hlo1
  have z1 : lo1 < w1.heap.size := S2.rowLt 0 rfl (by omega)
  have S3 := (S2.push.alloc #[.int .i64 T.t, .int .i64 T.p, .slice a1 T.zs.length c1] 27).push
  have F2 : Hid (∀ (p' : Nat) (v : Value) (ys : List Int) (h : Nat) (cs : Array Value), Far (rd r a c code p') (It.bytes bh a code :: It.box w1.heap.size cs 27 :: It.row lo1 h v ys :: It.box w.heap.size #[.int .i64 0, .int .i64 0, .slice none 0 0] 27 :: l)) :=
    Lib.hid fun p' v ys h cs => ⟨hf.1, .inr (by show r + 1 ≤ w1.heap.size; omega), .inr (by show r + 1 ≤ lo1; omega), .inr hrs, Far.same hf.2 p'⟩
  go_wp2_with fail
  refine (pick_any S3 ho hr (F2.out _ _ _ _ _) 24 (by omega) (by omega) (by omega)).mono ?_
  rintro e w2 ⟨k, k0, k1, rfl, S4⟩
  clear S1 S2 S3
  obtain ⟨x0, x1, x2, x3, x4, x5, xz⟩ := facts3 (S4.cells 2 rfl)
  obtain ⟨y0, y1, y2, y3, y4, y5, yz⟩ := facts3 (S4.cells 4 rfl)
  cases e0 : (k == 0)
  · cases e1 : (k == 1)
    · cases e2 : (k == 2)
      · cases e3 : (k == 3)
        · go_wp2_with fail
          refine bodyPost_ret (v := tabV T a1 c1) (by simp [results, Try.results68, go_sem, y0, y1, y2]) rfl ?_
          exact ⟨T, a1, c1, lo1, p1 + 1, rfl, drawn_of n1 (by omega) (by omega) (by omega) (by omega) (by omega) W3.out, by omega, by omega, some_close S4 hrs hbh FL.out hlo1 (by omega) _ _ _ _ rfl⟩
        · have S5 := (S4.lit [15, 16, -1] 3).push
          simp only [List.map_cons, List.map_nil] at S5
          have F5 : Far (rd r a c code (p1 + 1)) (It.bytes bh a code :: It.own w2.heap.size (w2.heap.size + 1) (some ⟨w2.heap.size, 0, none⟩) [15, 16, -1] :: It.box w1.heap.size #[.int .i64 T.t, .int .i64 T.p, .slice a1 T.zs.length c1] 27 :: It.row lo1 w1.heap.size (.slice a1 T.zs.length c1) T.zs :: It.box w.heap.size #[.int .i64 0, .int .i64 0, .slice none 0 0] 27 :: l) :=
            ⟨(F2.out 0 .nilIface [] 0 #[]).1, .inr (by show r + 1 ≤ w2.heap.size; omega), Far.same (F2.out 0 _ _ _ _).2 _⟩
          go_wp2_with fail
          refine (num_any S5 ho hr F5 0 3 _ _ _ 3 _ rfl rfl (by simp) (by simp) (by omega)).mono ?_
          rintro e w3 ⟨i, hi, rfl, S6⟩
          obtain ⟨b1, b2⟩ := nth_all (P := fun x => -1 ≤ x ∧ x ≤ 16) (xs := [15, 16, -1]) (by decide) hi
          generalize nth [15, 16, -1] i = x at b1 b2 ⊢
          clear x0 x1 x2 x3 x4 x5 xz y0 y1 y2 y3 y4 y5 yz S5
          obtain ⟨x0, x1, x2, x3, x4, x5, xz⟩ := facts3 (S6.cells 3 rfl)
          obtain ⟨y0, y1, y2, y3, y4, y5, yz⟩ := facts3 (S6.cells 5 rfl)
          have S7 : St w0 w3 (It.box w1.heap.size #[.int .i64 T.t, .int .i64 T.p, .slice a1 T.zs.length c1] 27 :: rd r a c code (p1 + 1 + 1) :: It.bytes bh a code :: It.row lo1 w1.heap.size (.slice a1 T.zs.length c1) T.zs :: It.box w.heap.size #[.int .i64 0, .int .i64 0, .slice none 0 0] 27 :: l) := S6.turn fun j hj => by
            simp only [List.mem_cons] at hj ⊢
            rcases hj with h | h | h | h
            · exact .inr (.inr (.inr (.inl h)))
            · exact .inl h
            · exact .inr (.inl h)
            · exact .inr (.inr (.inr (.inr h)))
          have S8 := ((S7.setBox 1 (.int .i64 x) ⟨.inl (by show r + 1 ≤ w1.heap.size; omega), .inl (by show bh ≤ w1.heap.size; omega), .inl (Nat.le_refl _), .inl (by show w.heap.size + 1 ≤ w1.heap.size; omega), FL.out _ (by show w.heap.size ≤ w1.heap.size; omega)⟩ (by omega))).push
          go_wp2_with fail
          refine bodyPost_ret (v := tabV ⟨T.t, x, T.zs⟩ a1 c1) (by simp [results, Try.results68, go_sem, y0, y1, y2]) rfl ?_
          exact ⟨⟨T.t, x, T.zs⟩, a1, c1, lo1, p1 + 1 + 1, rfl, drawn_of n1 (by show T.zs.length ≤ 17; omega) (by show -1 ≤ T.t; omega) (by show T.t ≤ 16; omega) b1 b2 W3.out, by omega, by omega, some_close S8 hrs hbh FL.out hlo1 (by omega) _ _ _ _ rfl⟩
      · have S5 := (S4.lit [15, 16, -1, 0] 3).push
        simp only [List.map_cons, List.map_nil] at S5
        have F5 : Far (rd r a c code (p1 + 1)) (It.bytes bh a code :: It.own w2.heap.size (w2.heap.size + 1) (some ⟨w2.heap.size, 0, none⟩) [15, 16, -1, 0] :: It.box w1.heap.size #[.int .i64 T.t, .int .i64 T.p, .slice a1 T.zs.length c1] 27 :: It.row lo1 w1.heap.size (.slice a1 T.zs.length c1) T.zs :: It.box w.heap.size #[.int .i64 0, .int .i64 0, .slice none 0 0] 27 :: l) :=
          ⟨(F2.out 0 .nilIface [] 0 #[]).1, .inr (by show r + 1 ≤ w2.heap.size; omega), Far.same (F2.out 0 _ _ _ _).2 _⟩
        go_wp2_with fail
        refine (num_any S5 ho hr F5 0 4 _ _ _ 4 _ rfl rfl (by simp) (by simp) (by omega)).mono ?_
        rintro e w3 ⟨i, hi, rfl, S6⟩
        obtain ⟨b1, b2⟩ := nth_all (P := fun x => -1 ≤ x ∧ x ≤ 16) (xs := [15, 16, -1, 0]) (by decide) hi
        generalize nth [15, 16, -1, 0] i = x at b1 b2 ⊢
        clear x0 x1 x2 x3 x4 x5 xz y0 y1 y2 y3 y4 y5 yz S5
        obtain ⟨x0, x1, x2, x3, x4, x5, xz⟩ := facts3 (S6.cells 3 rfl)
        obtain ⟨y0, y1, y2, y3, y4, y5, yz⟩ := facts3 (S6.cells 5 rfl)
        have S7 : St w0 w3 (It.box w1.heap.size #[.int .i64 T.t, .int .i64 T.p, .slice a1 T.zs.length c1] 27 :: rd r a c code (p1 + 1 + 1) :: It.bytes bh a code :: It.row lo1 w1.heap.size (.slice a1 T.zs.length c1) T.zs :: It.box w.heap.size #[.int .i64 0, .int .i64 0, .slice none 0 0] 27 :: l) := S6.turn fun j hj => by
          simp only [List.mem_cons] at hj ⊢
          rcases hj with h | h | h | h
          · exact .inr (.inr (.inr (.inl h)))
          · exact .inl h
          · exact .inr (.inl h)
          · exact .inr (.inr (.inr (.inr h)))
        have S8 := ((S7.setBox 0 (.int .i64 x) ⟨.inl (by show r + 1 ≤ w1.heap.size; omega), .inl (by show bh ≤ w1.heap.size; omega), .inl (Nat.le_refl _), .inl (by show w.heap.size + 1 ≤ w1.heap.size; omega), FL.out _ (by show w.heap.size ≤ w1.heap.size; omega)⟩ (by omega))).push
        go_wp2_with fail
        refine bodyPost_ret (v := tabV ⟨x, T.p, T.zs⟩ a1 c1) (by simp [results, Try.results68, go_sem, y0, y1, y2]) rfl ?_
        exact ⟨⟨x, T.p, T.zs⟩, a1, c1, lo1, p1 + 1 + 1, rfl, drawn_of n1 (by show T.zs.length ≤ 17; omega) b1 b2 (by show -1 ≤ T.p; omega) (by show T.p ≤ 16; omega) W3.out, by omega, by omega, some_close S8 hrs hbh FL.out hlo1 (by omega) _ _ _ _ rfl⟩
    · obtain ⟨i0, hi, hz0, hz1, hz2⟩ := info_parts Try.info3
      have HI := Lib.hid hi; have HZ0 := Lib.hid hz0; have HZ1 := Lib.hid hz1; have HZ2 := Lib.hid hz2
      clear hi hz0 hz1 hz2
      have S5 := ((S4.lit [5, 1, -1, -2] 3).push).drew
      simp only [List.map_cons, List.map_nil] at S5
      have F5 : Far (rd r a c code (p1 + 1)) (It.bytes bh a code :: It.own w2.heap.size (w2.heap.size + 1) (some ⟨w2.heap.size, 0, none⟩) [5, 1, -1, -2] :: It.box w1.heap.size #[.int .i64 T.t, .int .i64 T.p, .slice a1 T.zs.length c1] 27 :: It.row lo1 w1.heap.size (.slice a1 T.zs.length c1) T.zs :: It.box w.heap.size #[.int .i64 0, .int .i64 0, .slice none 0 0] 27 :: l) :=
        ⟨(F2.out 0 .nilIface [] 0 #[]).1, .inr (by show r + 1 ≤ w2.heap.size; omega), Far.same (F2.out 0 _ _ _ _).2 _⟩
      have FO : Hid (∀ p' : Nat, Far (It.row lo1 w1.heap.size (.slice a1 T.zs.length c1) T.zs) (rd r a c code p' :: It.bytes bh a code :: It.box w1.heap.size #[.int .i64 T.t, .int .i64 T.p, .slice a1 T.zs.length c1] 27 :: It.box w.heap.size #[.int .i64 0, .int .i64 0, .slice none 0 0] 27 :: l)) :=
        Lib.hid fun p' => ⟨.inl (by show r + 1 ≤ lo1; omega), .inl (by show bh ≤ lo1; omega), .inr (Nat.le_refl _), .inl (by show w.heap.size + 1 ≤ lo1; omega), FL.out _ (by show w.heap.size ≤ lo1; omega)⟩
      go_wp2_with fail
      go_region_law
        (first
          | (go_simp; go_at_call 76; refine (num_any S5 ho hr F5 0 4 _ _ _ 4 _ rfl rfl (by simp) (by simp) (by omega)).mono ?_; rintro e w3 ⟨i, hi, rfl, S6⟩; have z6 : w1.heap.size ≤ w3.heap.size := S6.sz 4 rfl; have v2 := (facts3 (S6.cells 3 rfl)).2.2.1; have vz := (facts3 (S6.cells 3 rfl)).2.2.2.2.2.2)
          | (refine step_append_lies _ (by rfl) _ _ _ (by rfl) lo1 3 i0 _ 1 8 Try.underlying22 HI.out HZ0.out HZ1.out HZ2.out rfl (by omega) _ _ _ (by rfl) ((S6.rows 4 rfl).alloc _) ⟨w3.heap.size, 0, none⟩ 1 1 [.int .i64 (nth [5, 1, -1, -2] i)] (by rfl) (by rfl) (World.news_of_block (cs := #[.int .i64 (nth [5, 1, -1, -2] i)]) (t := 3) (fr := (0, 0)) (heap_alloc_new w3 _)) (by simp [Value.oneCell']) (by omega) (by unfold maxLen; omega) (by omega) (by simp; omega) (w3.heap.size + 1) (by simp) ?_; intro gg cap w4 hown4 hgrow4 hat4 hlt4; have S7 := (pull_row S6).append (FO.out _) (by omega) _ hown4 hgrow4; have u2 := (facts3 (S7.cells 3 rfl)).2.2.1; have u5 := (facts3 (S7.cells 3 rfl)).2.2.2.2.2.1; have uz := (facts3 (S7.cells 3 rfl)).2.2.2.2.2.2))
      all_goals
        obtain ⟨b1, b2⟩ := nth_all (P := fun x => -3 ≤ x ∧ x ≤ 100) (xs := [5, 1, -1, -2]) (by decide) hi
        generalize nth [5, 1, -1, -2] i = x at b1 b2 S7 ⊢
        obtain ⟨y0, y1, y2, y3, y4, y5, yz⟩ := facts3 (S7.cells 4 rfl)
        clear x0 x1 x2 x3 x4 x5 xz v2 vz
        obtain ⟨x0, x1, x2, x3, x4, x5, xz⟩ := facts3 (S7.cells 3 rfl)
        have HB := Lib.hid (S7.cells 3 rfl)
        have HR := Lib.hid (S7.rows 0 rfl)
        have S8 : St w0 w4 (rd r a c code (p1 + 1 + 1) :: It.bytes bh a code :: It.box w.heap.size #[.int .i64 0, .int .i64 0, .slice none 0 0] 27 :: l) := S7.turn fun j hj => by
          simp only [List.mem_cons] at hj ⊢
          rcases hj with h | h | h | h
          · exact .inr (.inl h)
          · exact .inr (.inr (.inl h))
          · exact .inr (.inr (.inr (.inr (.inl h))))
          · exact .inr (.inr (.inr (.inr (.inr h))))
        clear hown4 hgrow4 hat4 hlt4 u2 u5 uz
        go_wp2
        refine bodyPost_ret (v := .agg #[.int .i64 T.t, .int .i64 T.p, .slice (some ⟨gg, 0, none⟩) (T.zs.length + 1) cap]) (by simp [results, Try.results68, go_sem, y0, y1, y2]) rfl ?_
        exact ⟨⟨T.t, T.p, T.zs ++ [x]⟩, some ⟨gg, 0, none⟩, cap, lo1, p1 + 1 + 1, by simp [tabV], drawn_of (by simp) (by simp; omega) (by show -1 ≤ T.t; omega) (by show T.t ≤ 16; omega) (by show -1 ≤ T.p; omega) (by show T.p ≤ 16; omega) (snoc_all W3.out ⟨b1, b2⟩), by omega, by omega, some_close2 S8 HB.out HR.out hrs hbh FL.out hlo1 (by omega) (by omega) _ _ _ _ _ rfl⟩
  · obtain ⟨b, o, rfl, _, _⟩ := (S4.rowInts 3 rfl).2 (by omega)
    have S5 := S4.drew
    have F7 : Hid (∀ (q' lo' hi' : Nat) (a' : Option Addr), r + 1 ≤ lo' → Far (rd r a c code q') (It.bytes bh a code :: It.own lo' hi' a' [-3, 100, 99, 0] :: It.box w1.heap.size #[.int .i64 T.t, .int .i64 T.p, .slice (some ⟨b, o, none⟩) T.zs.length c1] 27 :: It.row lo1 w1.heap.size (.slice (some ⟨b, o, none⟩) T.zs.length c1) T.zs :: It.box w.heap.size #[.int .i64 0, .int .i64 0, .slice none 0 0] 27 :: l)) :=
      Lib.hid fun q' lo' hi' a' h3 => ⟨(F2.out 0 .nilIface [] 0 #[]).1, .inr h3, Far.same (F2.out 0 _ _ _ _).2 _⟩
    have S5b := ((S4.lit [-3, 100, 99, 0] 3).push).drew
    simp only [List.map_cons, List.map_nil] at S5b
    have FO : Hid (∀ p' : Nat, Far (It.row lo1 w1.heap.size (.slice (some ⟨b, o, none⟩) T.zs.length c1) T.zs) (rd r a c code p' :: It.bytes bh a code :: It.box w1.heap.size #[.int .i64 T.t, .int .i64 T.p, .slice (some ⟨b, o, none⟩) T.zs.length c1] 27 :: It.box w.heap.size #[.int .i64 0, .int .i64 0, .slice none 0 0] 27 :: l)) :=
      Lib.hid fun p' => ⟨.inl (by show r + 1 ≤ lo1; omega), .inl (by show bh ≤ lo1; omega), .inr (Nat.le_refl _), .inl (by show w.heap.size + 1 ≤ lo1; omega), FL.out _ (by show w.heap.size ≤ lo1; omega)⟩
    go_wp2_with fail
    go_region_held3 (fun w' => w'.cell? ⟨w1.heap.size, 2, none⟩ = some (.slice (some ⟨b, o, none⟩) T.zs.length c1))
      (first
        | exact x2
        | exact (facts3 (S6.cells 2 rfl)).2.2.1
        | exact (facts3 (S7.cells 3 rfl)).2.2.1
        | exact (facts3 (S8.cells 3 rfl)).2.2.1
        | exact (facts3 (S9.cells 3 rfl)).2.2.1
        | go_keep)
      (first
        | (go_at_call 67; refine (pick_any S5 ho hr (F2.out _ _ _ _ _) _ (by omega) (by omega) (by omega)).mono ?_; rintro e w3 ⟨i, i0, i1, rfl, S6⟩; obtain ⟨i, rfl⟩ : ∃ m : Nat, i = m := ⟨i.toNat, by omega⟩; have z6 : w1.heap.size ≤ w3.heap.size := S6.sz 3 rfl; have S7 := (S6.lit [-3, 100, 99, 0] 3).push; simp only [List.map_cons, List.map_nil] at S7)
        | (go_at_call 67; refine (pick_any S5b ho hr (F7.out _ _ _ _ (by omega)) _ (by omega) (by omega) (by omega)).mono ?_; rintro e w3 ⟨i, i0, i1, rfl, S7⟩; obtain ⟨i, rfl⟩ : ∃ m : Nat, i = m := ⟨i.toNat, by omega⟩; have z6 : w1.heap.size ≤ w3.heap.size := S7.sz 4 rfl)
        | (go_at_call 76; refine (num_any S7 ho hr (F7.out _ _ _ _ (by omega)) 0 4 _ _ _ 4 _ rfl rfl (by simp) (by simp) (by omega)).mono ?_; rintro e w4 ⟨j, hj, rfl, S8⟩; have hil : i < T.zs.length := (by omega); obtain ⟨r1, r2⟩ := own_at (S8.rowInts 4 rfl) hil; have S9 := (pull_row S8).store i hil (FO.out _) (by omega) (nth [-3, 100, 99, 0] j)))
    all_goals
      obtain ⟨b1, b2⟩ := nth_all (P := fun x => -3 ≤ x ∧ x ≤ 100) (xs := [-3, 100, 99, 0]) (by decide) hj
      generalize nth [-3, 100, 99, 0] j = x at b1 b2 S9 ⊢
      clear x0 x1 x2 x3 x4 x5 xz y0 y1 y2 y3 y4 y5 yz r1 r2 S8 S7 S5 S4
      obtain ⟨x0, x1, x2, x3, x4, x5, xz⟩ := facts3 (S9.cells 3 rfl)
      obtain ⟨y0, y1, y2, y3, y4, y5, yz⟩ := facts3 (S9.cells 4 rfl)
      have S10 : St w0 _ (rd r a c code (p1 + 1 + 1 + 1) :: It.bytes bh a code :: It.box w1.heap.size #[.int .i64 T.t, .int .i64 T.p, .slice (some ⟨b, o, none⟩) T.zs.length c1] 27 :: It.row lo1 w1.heap.size (.slice (some ⟨b, o, none⟩) T.zs.length c1) (T.zs.set i x) :: It.box w.heap.size #[.int .i64 0, .int .i64 0, .slice none 0 0] 27 :: l) := S9.turn fun j hj => by
        simp only [List.mem_cons] at hj ⊢
        rcases hj with h | h | h | h
        · exact .inr (.inl h)
        · exact .inr (.inr (.inl h))
        · exact .inr (.inr (.inr (.inl h)))
        · rcases h with h | h
          · exact .inl h
          · exact .inr (.inr (.inr (.inr h)))
      go_wp2
      refine bodyPost_ret (v := .agg #[.int .i64 T.t, .int .i64 T.p, .slice (some ⟨b, o, none⟩) T.zs.length c1]) (by simp [results, Try.results68, go_sem, y0, y1, y2]) rfl ?_
      exact ⟨⟨T.t, T.p, T.zs.set i x⟩, some ⟨b, o, none⟩, c1, lo1, p1 + 1 + 1 + 1, by simp [tabV], drawn_of (by simp; omega) (by simp; omega) (by show -1 ≤ T.t; omega) (by show T.t ≤ 16; omega) (by show -1 ≤ T.p; omega) (by show T.p ≤ 16; omega) (set_all W3.out i ⟨b1, b2⟩), by omega, by omega, some_close S10 hrs hbh FL.out hlo1 (by omega) _ _ _ _ rfl⟩

end Go.Proofs.Ytpncpeokdcolpaa

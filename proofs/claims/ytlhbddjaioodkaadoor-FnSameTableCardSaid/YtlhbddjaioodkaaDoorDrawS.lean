/-
  What chapter 1 draws as arguments: DrawSameTable.
-/
import Derived.Test.YtlhbddjaioodkaaDoorCopy
import Derived.Test.YtlhbddjaioodkaaDoorOpenC
namespace Go.Proofs.YtlhbddjaioodkaaDoor
open Go.RowKit

/-- Two tables of the call's own. -/
def TwoTabs (w0 : World) (l : List It) (e : Ending) (w' : World) : Prop :=
  ∃ (A B : Tab) (a b : Option Addr) (c d lo hi lo2 hi2 : Nat), e = .returned (.tuple #[tabV A a c, tabV B b d]) ∧ (1 ≤ A.zs.length ∧ A.zs.length ≤ 17) ∧ (1 ≤ B.zs.length ∧ B.zs.length ≤ 17) ∧
    St w0 w' (It.own lo hi a A.zs :: It.own lo2 hi2 b B.zs :: l)

theorem St.storeOwn {w0 w : World} {l : List It} {lo hi g : Nat} {zs : List Int} (h : St w0 w l) (n i : Nat) (hi' : i < zs.length) (hn : l[n]? = some (It.own lo hi (some ⟨g, 0, none⟩) zs)) (hf : Far (It.own lo hi (some ⟨g, 0, none⟩) zs) (l.eraseIdx n)) (hlo : w0.heap.size ≤ lo) (v : Int) :
    St w0 (w.setCell ⟨g, i, none⟩ (.int .i64 v)) (l.set n (It.own lo hi (some ⟨g, 0, none⟩) (zs.set i v))) := by
  have h5 := (h.owns n hn).set i hi' v
  rw [Nat.zero_add] at h5
  exact h.markAt (a := some ⟨g, 0, none⟩) (w' := w.setCell ⟨g, i, none⟩ (.int .i64 v)) ⟨rfl, rfl, rfl, by simp [World.setCell], fun k _ hk => Below.heap_setCell w ⟨g, i, none⟩ _ k (fun e => hk (by rw [e]; rfl))⟩ h5 n hn hf hlo

theorem St.set6 {w0 w : World} {l : List It} {b b2 : Nat} (h : St w0 w l) (hf : Far (It.box b #[] 0) l) (hf2 : Far (It.box b2 #[] 0) l) (hlo : w0.heap.size ≤ b) (hlo2 : w0.heap.size ≤ b2) (x y z x' y' z' : Value) :
    St w0 ((((((w.setCell ⟨b, 0, none⟩ x).setCell ⟨b, 1, none⟩ y).setCell ⟨b, 2, none⟩ z).setCell ⟨b2, 0, none⟩ x').setCell ⟨b2, 1, none⟩ y').setCell ⟨b2, 2, none⟩ z') l :=
  (h.set3Far hf hlo x y z).set3Far hf2 hlo2 x' y' z'

set_option maxHeartbeats 4000000 in
set_option maxRecDepth 100000 in
theorem DrawSameTable_any {w0 w : World} {l : List It} {a : Option Addr} {c bh : Nat} {code : List Int} (S : St w0 w (It.bytes bh a code :: l)) (h : Came c code) :
    Calls Tryd.prog 14 #[.slice a code.length c] w (TwoTabs w0 l) := by
  have hz := S.size
  have Sl : St w0 w l := S.turn fun i hi => List.mem_cons_of_mem _ hi
  have FL : Hid (∀ b : Nat, w.heap.size ≤ b → Far (It.box b #[] 0) l) := Lib.hid fun b hb => Far.older Sl (fun _ h => h) hb
  have S0 := ((S.alloc #[.int .i64 0, .int .i64 0, .slice none 0 0] 25).alloc #[.int .i64 0, .int .i64 0, .slice none 0 0] 25).turn (l' := It.bytes bh a code :: It.box (w.heap.size + 1) #[.int .i64 0, .int .i64 0, .slice none 0 0] 25 :: It.box w.heap.size #[.int .i64 0, .int .i64 0, .slice none 0 0] 25 :: l) fun i hi => by
    simp only [List.mem_cons, World.size_alloc] at hi ⊢
    rcases hi with h | h | h | h
    · exact .inr (.inr (.inl h))
    · exact .inl h
    · exact .inr (.inl h)
    · exact .inr (.inr (.inr h))
  have C := Came.open S0 h
  have zA : ((w.alloc (.cells #[.int .i64 0, .int .i64 0, .slice none 0 0] 25)).alloc (.cells #[.int .i64 0, .int .i64 0, .slice none 0 0] 25)).heap.size = w.heap.size + 1 + 1 := by simp
  rw [zA] at C
  generalize code.length = n at C ⊢
  generalize code.take 2000 = cd at C
  go_enter Tryd.func14, Tryd.ntmps14
  go_wp2_with fail
  refine C.mono ?_
  rintro e w1 ⟨r, rfl, hr, ok, F, S1⟩
  have hr1 : r + 1 ≤ w1.heap.size := S1.sz 0 rfl
  go_wp2_with fail
  refine (l1Some_any S1 ok (by omega) F (by omega)).mono ?_
  rintro e w2 ⟨T, a', c', lo, p', rfl, hT, hp', hlo, S2⟩
  have zB : r + 1 ≤ w2.heap.size := S2.sz 1 rfl
  obtain ⟨n1, n2⟩ := hT.len
  have S4 : St w0 (w2.alloc (.cells #[.int .i64 T.t, .int .i64 T.p, .slice a' T.zs.length c'] 25)) (rd r a c cd p' :: It.bytes (w.heap.size + 1 + 1) a cd :: It.own lo w2.heap.size a' T.zs :: It.box w2.heap.size #[.int .i64 T.t, .int .i64 T.p, .slice a' T.zs.length c'] 25 :: It.box (w.heap.size + 1) #[.int .i64 0, .int .i64 0, .slice none 0 0] 25 :: It.box w.heap.size #[.int .i64 0, .int .i64 0, .slice none 0 0] 25 :: l) :=
    (S2.alloc #[.int .i64 T.t, .int .i64 T.p, .slice a' T.zs.length c'] 25).turn fun i hi => by
      simp only [List.mem_cons] at hi ⊢
      rcases hi with h | h | h | h | h
      · exact .inr (.inr (.inl h))
      · exact .inr (.inr (.inr (.inl h)))
      · exact .inr (.inl h)
      · exact .inl h
      · exact .inr (.inr (.inr (.inr h)))
  have F4 : Far (rd r a c cd p') (It.bytes (w.heap.size + 1 + 1) a cd :: It.own lo w2.heap.size a' T.zs :: It.box w2.heap.size #[.int .i64 T.t, .int .i64 T.p, .slice a' T.zs.length c'] 25 :: It.box (w.heap.size + 1) #[.int .i64 0, .int .i64 0, .slice none 0 0] 25 :: It.box w.heap.size #[.int .i64 0, .int .i64 0, .slice none 0 0] 25 :: l) :=
    ⟨F.1, .inr (by show r + 1 ≤ lo; omega), .inr (by show r + 1 ≤ w2.heap.size; omega), Far.same F.2 p'⟩
  go_wp2_with fail
  refine (pick_any S4 ok (by omega) F4 3 (by omega) (by omega) (by omega)).mono ?_
  rintro e w3 ⟨k, k0, k1, rfl, S5⟩
  clear S0 S1 S2 S4 C
  obtain ⟨x0, x1, x2, x3, x4, x5, xz⟩ := facts3 (S5.cells 3 rfl)
  obtain ⟨y0, y1, y2, y3, y4, y5, yz⟩ := facts3 (S5.cells 4 rfl)
  obtain ⟨z0, z1, z2, z3, z4, z5, zz⟩ := facts3 (S5.cells 5 rfl)
  have ne0 : w2.heap.size ≠ w.heap.size := by omega
  have ne1 : w2.heap.size ≠ w.heap.size + 1 := by omega
  cases e0 : (k == 0)
  · cases e1 : (k == 1)
    · go_wp2_with fail
      go_region_held3 (fun w' => w'.cell? ⟨w2.heap.size, 0, none⟩ = some (.int .i64 T.t) ∧ w'.cell? ⟨w2.heap.size, 1, none⟩ = some (.int .i64 T.p) ∧ w'.cell? ⟨w2.heap.size, 2, none⟩ = some (.slice a' T.zs.length c'))
        (first
          | exact ⟨x0, x1, x2⟩
          | (with_reducible exact T6)
          | (with_reducible exact keep_set3 ne0 T6)
          | (with_reducible exact keep_set3 ne1 (keep_set3 ne0 T6))
          | (with_reducible exact keep_set3 ne1 T6)
          | (with_reducible exact keep_set3 ne0 (keep_set3 ne1 T6)))
        (first
          | (go_at_call 20; refine (l1Some_any S5.drew ok (by omega) (Far.same F4 _) (by omega)).mono ?_; rintro e w4 ⟨U, u', d', lo2, p2, rfl, hU, hp2, hlo2, S6⟩; have T6 := S6.three 4 rfl; obtain ⟨u1, u2⟩ := hU.len; have zh : w3.heap.size ≤ lo2 := hlo2; clear x0 x1 x2 x3 x4 x5 xz y0 y1 y2 y3 y4 y5 yz z0 z1 z2 z3 z4 z5 zz; obtain ⟨y0, y1, y2, y3, y4, y5, yz⟩ := facts3 (S6.cells 5 rfl); obtain ⟨z0, z1, z2, z3, z4, z5, zz⟩ := facts3 (S6.cells 6 rfl)))
      have S7 : St w0 w4 (It.own lo w2.heap.size a' T.zs :: It.own lo2 w4.heap.size u' U.zs :: l) := S6.turn fun i hi => by
        simp only [List.mem_cons] at hi ⊢
        rcases hi with h | h | h
        · exact .inr (.inr (.inr (.inl h)))
        · exact .inl h
        · exact .inr (.inr (.inr (.inr (.inr (.inr (.inr h))))))
      have zw : w2.heap.size + 1 ≤ w3.heap.size := S5.sz 3 rfl
      have S8 := S7.set6 (b := w.heap.size) (b2 := w.heap.size + 1) ⟨.inr (by show w.heap.size + 1 ≤ lo; omega), .inr (by show w.heap.size + 1 ≤ lo2; omega), FL.out _ (Nat.le_refl _)⟩ ⟨.inr (by show w.heap.size + 1 + 1 ≤ lo; omega), .inr (by show w.heap.size + 1 + 1 ≤ lo2; omega), FL.out _ (by omega)⟩ hz (by omega) (.int .i64 T.t) (.int .i64 T.p) (.slice a' T.zs.length c') (.int .i64 U.t) (.int .i64 U.p) (.slice u' U.zs.length d')
      go_wp2
      refine bodyPost_ret (v := .tuple #[tabV T a' c', tabV U u' d']) (by simp [results, Tryd.results14, go_sem, y0, y1, y2, z0, z1, z2]) rfl ?_
      exact ⟨T, U, a', u', c', d', _, _, _, _, rfl, ⟨n1, n2⟩, ⟨u1, u2⟩, S8⟩
    · go_wp2_with fail
      refine (l1Copy_any T a' c' _ (by omega) (by omega) (by exact S5.ints 2 rfl)).mono ?_
      rintro e w4 ⟨g, d', rfl, ho, hb⟩
      have S6 := (S5.below hb).own ho
      have zh : w3.heap.size ≤ w4.heap.size := hb.size
      clear ho hb x0 x1 x2 x3 x4 x5 xz y0 y1 y2 y3 y4 y5 yz z0 z1 z2 z3 z4 z5 zz
      have S7 : St w0 (w4.alloc (.cells #[.int .i64 T.t, .int .i64 T.p, .slice (some ⟨g, 0, none⟩) T.zs.length d'] 25)) (rd r a c cd (p' + 1) :: It.bytes (w.heap.size + 1 + 1) a cd :: It.own w3.heap.size w4.heap.size (some ⟨g, 0, none⟩) T.zs :: It.box w4.heap.size #[.int .i64 T.t, .int .i64 T.p, .slice (some ⟨g, 0, none⟩) T.zs.length d'] 25 :: It.own lo w2.heap.size a' T.zs :: It.box w2.heap.size #[.int .i64 T.t, .int .i64 T.p, .slice a' T.zs.length c'] 25 :: It.box (w.heap.size + 1) #[.int .i64 0, .int .i64 0, .slice none 0 0] 25 :: It.box w.heap.size #[.int .i64 0, .int .i64 0, .slice none 0 0] 25 :: l) :=
        (S6.alloc #[.int .i64 T.t, .int .i64 T.p, .slice (some ⟨g, 0, none⟩) T.zs.length d'] 25).turn fun i hi => by
          simp only [List.mem_cons] at hi ⊢
          rcases hi with h | h | h | h | h
          · exact .inr (.inr (.inl h))
          · exact .inr (.inr (.inr (.inl h)))
          · exact .inr (.inl h)
          · exact .inl h
          · exact .inr (.inr (.inr (.inr h)))
      have zw : w2.heap.size + 1 ≤ w3.heap.size := S5.sz 3 rfl
      have FR : Hid (∀ (q : Nat), Far (rd r a c cd q) (It.bytes (w.heap.size + 1 + 1) a cd :: It.own w3.heap.size w4.heap.size (some ⟨g, 0, none⟩) T.zs :: It.box w4.heap.size #[.int .i64 T.t, .int .i64 T.p, .slice (some ⟨g, 0, none⟩) T.zs.length d'] 25 :: It.own lo w2.heap.size a' T.zs :: It.box w2.heap.size #[.int .i64 T.t, .int .i64 T.p, .slice a' T.zs.length c'] 25 :: It.box (w.heap.size + 1) #[.int .i64 0, .int .i64 0, .slice none 0 0] 25 :: It.box w.heap.size #[.int .i64 0, .int .i64 0, .slice none 0 0] 25 :: l)) :=
        Lib.hid fun q => ⟨F4.1, .inr (by show r + 1 ≤ w3.heap.size; omega), .inr (by show r + 1 ≤ w4.heap.size; omega), Far.same F4.2 q⟩
      have S8a := S7.drew
      have S8b := ((S7.lit [-1, -2, 5] 3).push).drew
      simp only [List.map_cons, List.map_nil] at S8b
      have F8b := (FR.out (p' + 1)).push (p' := p' + 1) (x := It.own (w4.heap.size + 1) (w4.heap.size + 1 + 1) (some ⟨w4.heap.size + 1, 0, none⟩) [-1, -2, 5]) (.inl (by show r + 1 ≤ w4.heap.size + 1; omega))
      simp only [World.size_alloc] at S8b
      have FO : Hid (∀ (q b1 b2 : Nat) (e : Option Addr) (zs : List Int), w4.heap.size ≤ b1 → Far (It.own w3.heap.size w4.heap.size (some ⟨g, 0, none⟩) T.zs) (rd r a c cd q :: It.bytes (w.heap.size + 1 + 1) a cd :: It.own b1 b2 e zs :: It.box w4.heap.size #[.int .i64 T.t, .int .i64 T.p, .slice (some ⟨g, 0, none⟩) T.zs.length d'] 25 :: It.own lo w2.heap.size a' T.zs :: It.box w2.heap.size #[.int .i64 T.t, .int .i64 T.p, .slice a' T.zs.length c'] 25 :: It.box (w.heap.size + 1) #[.int .i64 0, .int .i64 0, .slice none 0 0] 25 :: It.box w.heap.size #[.int .i64 0, .int .i64 0, .slice none 0 0] 25 :: l)) :=
        Lib.hid fun q b1 b2 e zs hb1 => ⟨.inl (by show r + 1 ≤ w3.heap.size; omega), .inl (by show w.heap.size + 1 + 1 ≤ w3.heap.size; omega), .inr hb1, .inr (Nat.le_refl _), .inl (by show w2.heap.size ≤ w3.heap.size; omega), .inl zw, .inl (by show w.heap.size + 1 + 1 ≤ w3.heap.size; omega), .inl (by show w.heap.size + 1 ≤ w3.heap.size; omega), Far.older Sl (i := It.own w3.heap.size w4.heap.size (some ⟨g, 0, none⟩) T.zs) (fun _ h => h) (by show w.heap.size ≤ w3.heap.size; omega)⟩
      obtain ⟨v0, v1, v2, v3, v4, v5, vz⟩ := facts3 (S7.cells 3 rfl)
      go_wp2_with fail
      go_region_held3 (fun w' => w'.cell? ⟨w4.heap.size, 2, none⟩ = some (.slice (some ⟨g, 0, none⟩) T.zs.length d'))
        (first
          | exact v2
          | exact (facts3 (T9.cells 3 rfl)).2.2.1
          | exact (facts3 (T10.cells 4 rfl)).2.2.1
          | exact (facts3 (T11.cells 4 rfl)).2.2.1
          | exact U2
          | go_keep)
        (first
          | (go_at_call 36; refine (pick_any S8a ok (by omega) (FR.out _) _ (by omega) (by omega) (by omega)).mono ?_; rintro e w5 ⟨i, i0, i1, rfl, T9⟩; obtain ⟨i, rfl⟩ : ∃ m : Nat, i = m := ⟨i.toNat, by omega⟩; have z9 : w4.heap.size + 1 ≤ w5.heap.size := T9.sz 3 rfl; have T10 := (T9.lit [-1, -2, 5] 3).push; simp only [List.map_cons, List.map_nil] at T10; have F10 := (FR.out (p' + 1 + 1)).push (p' := p' + 1 + 1) (x := It.own w5.heap.size (w5.heap.size + 1) (some ⟨w5.heap.size, 0, none⟩) [-1, -2, 5]) (.inl (by show r + 1 ≤ w5.heap.size; omega)))
          | (go_at_call 36; refine (pick_any S8b ok (by omega) F8b _ (by omega) (by omega) (by omega)).mono ?_; rintro e w5 ⟨i, i0, i1, rfl, T10⟩; obtain ⟨i, rfl⟩ : ∃ m : Nat, i = m := ⟨i.toNat, by omega⟩; have z9 : w4.heap.size + 1 ≤ w5.heap.size := T10.sz 4 rfl; have F10 := Far.same F8b (p' + 1 + 1))
          | (go_at_call 42; refine (num_any T10 ok (by omega) F10 0 3 _ _ _ 3 _ rfl rfl (by simp) (by simp) (by omega)).mono ?_; rintro e w6 ⟨j, hj, rfl, T11⟩; have hil : i < T.zs.length := (by omega); have OW := T11.owns 3 rfl; obtain ⟨r1, r2⟩ := own_at OW hil; rw [Nat.zero_add] at r1 r2; have hgl : g < w4.heap.size := ((T11.get 3 rfl).2 _ rfl); have T12 := T11.storeOwn 3 i hil rfl (FO.out _ _ _ _ _ (by omega)) (by omega) (nth [-1, -2, 5] j); have U2 := (facts3 (T12.cells 4 rfl)).2.2.1))
      all_goals
        generalize nth [-1, -2, 5] j = x at T12 U2 ⊢
        have ne2 : w4.heap.size ≠ w.heap.size := by omega
        have ne3 : w4.heap.size ≠ w.heap.size + 1 := by omega
        have Ta := T12.three 6 rfl
        have Tb := T12.three 4 rfl
        clear v0 v1 v2 v3 v4 v5 vz r1 r2 U2 OW T11
        obtain ⟨x0, x1, x2, x3, x4, x5, xz⟩ := facts3 (T12.cells 6 rfl)
        obtain ⟨v0, v1, v2, v3, v4, v5, vz⟩ := facts3 (T12.cells 4 rfl)
        obtain ⟨y0, y1, y2, y3, y4, y5, yz⟩ := facts3 (T12.cells 7 rfl)
        obtain ⟨z0, z1, z2, z3, z4, z5, zz⟩ := facts3 (T12.cells 8 rfl)
        have S7 : St w0 (w6.setCell ⟨g, i, none⟩ (.int .i64 x)) (It.own lo w2.heap.size a' T.zs :: It.own w3.heap.size w4.heap.size (some ⟨g, 0, none⟩) (T.zs.set i x) :: l) := T12.turn fun i hi => by
          simp only [List.mem_cons, List.set] at hi ⊢
          rcases hi with h | h | h
          · exact .inr (.inr (.inr (.inr (.inr (.inl h)))))
          · exact .inr (.inr (.inr (.inl h)))
          · exact .inr (.inr (.inr (.inr (.inr (.inr (.inr (.inr (.inr h))))))))
        have S8 := S7.set6 (b := w.heap.size) (b2 := w.heap.size + 1) ⟨.inr (by show w.heap.size + 1 ≤ lo; omega), .inr (by show w.heap.size + 1 ≤ w3.heap.size; omega), FL.out _ (Nat.le_refl _)⟩ ⟨.inr (by show w.heap.size + 1 + 1 ≤ lo; omega), .inr (by show w.heap.size + 1 + 1 ≤ w3.heap.size; omega), FL.out _ (by omega)⟩ hz (by omega) (.int .i64 T.t) (.int .i64 T.p) (.slice a' T.zs.length c') (.int .i64 T.t) (.int .i64 T.p) (.slice (some ⟨g, 0, none⟩) T.zs.length d')
        go_wp2_with fail
        go_region
        all_goals
          go_wp2
          refine bodyPost_ret (v := .tuple #[tabV T a' c', .agg #[.int .i64 T.t, .int .i64 T.p, .slice (some ⟨g, 0, none⟩) T.zs.length d']]) (by simp [results, Tryd.results14, go_sem, y0, y1, y2, z0, z1, z2]) rfl ?_
          exact ⟨T, ⟨T.t, T.p, T.zs.set i x⟩, a', some ⟨g, 0, none⟩, c', d', _, _, _, _, by simp [tabV], ⟨n1, n2⟩, ⟨by simp; omega, by simp; omega⟩, S8.drew⟩
  · go_wp2_with fail
    go_region_held3 (fun w' => w'.cell? ⟨w2.heap.size, 0, none⟩ = some (.int .i64 T.t) ∧ w'.cell? ⟨w2.heap.size, 1, none⟩ = some (.int .i64 T.p) ∧ w'.cell? ⟨w2.heap.size, 2, none⟩ = some (.slice a' T.zs.length c'))
      (first
        | exact ⟨x0, x1, x2⟩
        | (with_reducible exact T6)
        | (with_reducible exact keep_set3 ne0 T6)
        | (with_reducible exact keep_set3 ne1 (keep_set3 ne0 T6))
        | (with_reducible exact keep_set3 ne1 T6)
        | (with_reducible exact keep_set3 ne0 (keep_set3 ne1 T6)))
      (first
        | (go_at_call 41; refine (l1Copy_any T a' c' _ (by omega) (by omega) (by exact S5.drew.ints 2 rfl)).mono ?_; rintro e w4 ⟨g, d', rfl, ho, hb⟩; have S6 := (S5.drew.below hb).own ho; have T6 := S6.three 4 rfl; have zh : w3.heap.size ≤ w4.heap.size := hb.size; clear ho hb x0 x1 x2 x3 x4 x5 xz y0 y1 y2 y3 y4 y5 yz z0 z1 z2 z3 z4 z5 zz; obtain ⟨y0, y1, y2, y3, y4, y5, yz⟩ := facts3 (S6.cells 5 rfl); obtain ⟨z0, z1, z2, z3, z4, z5, zz⟩ := facts3 (S6.cells 6 rfl)))
    have S7 : St w0 w4 (It.own lo w2.heap.size a' T.zs :: It.own w3.heap.size w4.heap.size (some ⟨g, 0, none⟩) T.zs :: l) := S6.turn fun i hi => by
      simp only [List.mem_cons] at hi ⊢
      rcases hi with h | h | h
      · exact .inr (.inr (.inr (.inl h)))
      · exact .inl h
      · exact .inr (.inr (.inr (.inr (.inr (.inr (.inr h))))))
    have zw : w2.heap.size + 1 ≤ w3.heap.size := S5.sz 3 rfl
    have S8 := S7.set6 (b := w.heap.size) (b2 := w.heap.size + 1) ⟨.inr (by show w.heap.size + 1 ≤ lo; omega), .inr (by show w.heap.size + 1 ≤ w3.heap.size; omega), FL.out _ (Nat.le_refl _)⟩ ⟨.inr (by show w.heap.size + 1 + 1 ≤ lo; omega), .inr (by show w.heap.size + 1 + 1 ≤ w3.heap.size; omega), FL.out _ (by omega)⟩ hz (by omega) (.int .i64 T.t) (.int .i64 T.p) (.slice a' T.zs.length c') (.int .i64 T.t) (.int .i64 T.p) (.slice (some ⟨g, 0, none⟩) T.zs.length d')
    go_wp2
    refine bodyPost_ret (v := .tuple #[tabV T a' c', tabV T (some ⟨g, 0, none⟩) d']) (by simp [results, Tryd.results14, go_sem, y0, y1, y2, z0, z1, z2]) rfl ?_
    exact ⟨T, T, a', some ⟨g, 0, none⟩, c', d', _, _, _, _, rfl, ⟨n1, n2⟩, ⟨n1, n2⟩, S8⟩

end Go.Proofs.YtlhbddjaioodkaaDoor

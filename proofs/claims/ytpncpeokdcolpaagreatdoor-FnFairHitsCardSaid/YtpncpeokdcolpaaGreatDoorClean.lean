/-
  The program's CleanTable: keys from an iterator, put into a variable.
-/
import Derived.Test.YtpncpeokdcolpaaGreatDoorPut
import Derived.Test.YtpncpeokdcolpaaGreatDoorCleanS
import Derived.Test.YtpncpeokdcolpaaGreatDoorLostI
namespace Go.Proofs.YtpncpeokdcolpaaGreatDoor
open Go.RowKit Go.Shelf
attribute [local go_sem] Oper.semAt_some

/-- A variable at Bc holds a table, whose slots lie from lo on. -/
def HoldsT (Bc lo : Nat) (C : Tab) (W : World) : Prop :=
  ∃ a c, W.heap[Bc]? = some (.cells #[.int .i64 C.t, .int .i64 C.p, .slice a C.zs.length c] 27 (0, 0)) ∧ OwnInts W lo a C.zs

theorem cell_cells {W : World} {b o : Nat} {v : Value} (h : W.cell? ⟨b, o, none⟩ = some v) : ∃ cs t f, W.heap[b]? = some (.cells cs t f) := by
  rcases hX : W.heap[b]? with _ | ob
  · simp [World.cell?, hX] at h
  · cases ob <;> first | exact ⟨_, _, _, rfl⟩ | (simp [World.cell?, hX] at h)

theorem holdsT_own {β : Type} (Bc lo : Nat) (f : β → Tab) : Own (fun s W => HoldsT Bc lo (f s) W) := fun s X Y row hs hg hr => by
  obtain ⟨a, c, hb, ho⟩ := hs
  have hne : ∀ b cs t f, X.heap[b]? = some (.cells cs t f) → some b ≠ row := fun b cs t f h e => by
    obtain ⟨o, h1, h2⟩ := hr b e.symm
    rw [h] at h1
    cases h1
    cases h2
  refine ⟨a, c, (hg.block Bc (Array.getElem?_eq_some_iff.1 hb).1 (hne _ _ _ _ hb)).trans hb, fun p hp => ⟨(ho.1 p hp).1, Nat.lt_of_lt_of_le (ho.1 p hp).2 hg.size⟩, fun h0 => ?_⟩
  obtain ⟨b, off, rfl, hc, hf⟩ := ho.2 h0
  obtain ⟨cs, t, fz, hbb⟩ := cell_cells (hc 0 h0)
  have hsame := hg.block b (Array.getElem?_eq_some_iff.1 hbb).1 (hne _ _ _ _ hbb)
  exact ⟨b, off, rfl, fun j hj => (World.cell?_of_block (w := X) (a := ⟨b, off + j, none⟩) hsame).trans (hc j hj), fun j hj => (World.frozen?_of_block (w := X) (a := ⟨b, off + j, none⟩) hsame).trans (hf j hj)⟩

theorem putsT_len {T : Tab} (h : T.zs.length ≤ 16) (ps : List Int) : (putsT T ps).zs.length ≤ 16 := by
  rcases List.eq_nil_or_concat ps with rfl | ⟨qs, x, rfl⟩
  · simpa [putsT, freeT] using h
  · rw [List.concat_eq_append, putsT_snoc]
    exact putT_len _ _

theorem keepsFrom_set {B : Nat} {X W : World} (h : KeepsFrom B X W) {b o : Nat} (hb : b < B) (v : Value) : KeepsFrom B X (W.setCell ⟨b, o, none⟩ v) :=
  ⟨Nat.le_trans h.size (by simp [World.setCell]), fun k ob hk hx ho => (Below.heap_setCell W ⟨b, o, none⟩ v k (by simp only; omega)).trans (h.same k ob hk hx ho)⟩
theorem keepBlock_set {g : Nat} {X W : World} (h : KeepBlock g X W) {b o : Nat} (hb : g ≠ b) (v : Value) : KeepBlock g X (W.setCell ⟨b, o, none⟩ v) :=
  ⟨Nat.le_trans h.1 (by simp [World.setCell]), (Below.heap_setCell W ⟨b, o, none⟩ v g (by simpa using hb)).trans h.2⟩

set_option maxRecDepth 100000 in
set_option maxHeartbeats 4000000 in
theorem CleanTable_any (T : Tab) (a : Option Addr) (c : Nat) (w : World) (hx : T.zs.length ≤ 9223372036854775807) (h1 : IntsAt w a T.zs) :
    Calls Tryz.prog 30 #[tabV T a c] w (TabRes (cleanT T) (soundB T) w) := by
  have S0 := (((St.start w).read h1).alloc #[.int .i64 T.t, .int .i64 T.p, .slice a T.zs.length c] 27).alloc #[.int .i64 0, .int .i64 0, .slice none 0 0] 27
  rw [World.size_alloc] at S0
  cases hs : soundB T
  · have E := Lib.hid hs
    go_enter Tryz.func30, Tryz.ntmps30
    go_wp2_with fail
    refine (IsSound_any T a c _ hx (by exact S0.reads 2 rfl)).mono ?_
    rw [hs]
    rintro e w2 ⟨rfl, hb⟩
    have S2 := S0.below hb
    clear S0 hb
    obtain ⟨x0, x1, x2, x3, x4, x5, xz⟩ := facts3 (S2.cells 0 rfl)
    go_wp2
    refine bodyPost_ret (v := .tuple #[tbl 0 0 none 0 0, .bool false]) (by simp [results, Tryz.results30, go_sem, x0, x1, x2, x3, x4, x5]) rfl ?_
    have := cleanRes_no E.out (set3 S2.old (Nat.le_succ _) (.int .i64 0) (.int .i64 0) (.slice none 0 0))
    rw [E.out] at this
    exact this
  · have hv := (sound_all.1 hs).1
    have hn := (valid_facts hv).1
    have HV := Lib.hid hv
    have HS := Lib.hid hs
    have HN : Hid (∀ W : World, Calls Tryz.prog 76 #[.int .i64 T.zs.length, .int .i64 T.t, .int .i64 T.p] W fun e w' => ∃ a' c', e = .returned (.tuple #[.agg #[.int .i64 T.t, .int .i64 T.p, .slice a' T.zs.length c'], .bool true]) ∧ OwnInts w' W.heap.size a' (freeT T).zs ∧ Below W.heap.size W w') := Lib.hid fun W => by
      have hh := (validB_iff.1 hv).1
      have := NewTable_any T.zs.length T.t T.p W
      rw [hh] at this
      refine this.mono ?_
      rintro e w' ⟨a', c', rfl, ho, hb⟩
      have hnt : newTab T.zs.length T.t T.p = freeT T := by simp [newTab, hh, freeT]
      rw [hnt] at ho ⊢
      exact ⟨a', c', by simp [freeT], ho, hb⟩
    clear hv hs
    refine (callsIn_wide (n := 9)).1 ?_
    refine callsIn_of_wp_marks Tryz.func30 rfl trivial ?_ rfl
    simp only [Tryz.ntmps30, List.size_toArray, List.length_cons, List.length_nil, Nat.reduceAdd, Nat.reduceSub, Array.replicate_succ, Array.replicate_zero, List.push_toArray, List.append_toArray, List.nil_append, List.cons_append]
    gi_wp2_with fail
    refine ⟨trivial, (callsIn_wide.2 (IsSound_any T a c _ hx (by exact S0.reads 2 rfl))).mono ?_⟩
    rw [HS.out]
    rintro e w1 ⟨rfl, hb⟩
    have z1 : w.heap.size + 2 ≤ w1.heap.size := by have := hb.size; simpa using this
    have S1 := S0.below hb
    clear S0 hb
    obtain ⟨x0, x1, x2, x3, x4, x5, xz⟩ := facts3 (S1.cells 1 rfl)
    gi_wp2_with fail
    clear x0 x1 x2 x3 x4 x5 xz
    refine ⟨trivial, (callsIn_wide.2 (HN.out _)).mono ?_⟩
    rintro e w2 ⟨a2, c2, rfl, ho, hb⟩
    have z2 := hb.size
    have S2 := ((S1.below hb).own ho).alloc #[.int .i64 T.t, .int .i64 T.p, .slice a2 T.zs.length c2] 27
    clear S1 hb ho
    obtain ⟨x0, x1, x2, x3, x4, x5, xz⟩ := facts3 (S2.cells 3 rfl)
    gi_wp2_with fail
    clear x0 x1 x2 x3 x4 x5 xz
    refine ⟨trivial, (callsIn_wide.2 (ringOf_any T a c _ (by exact S2.reads 4 rfl) HV.out)).mono ?_⟩
    rintro e w3 ⟨g, rfl, hg0, hg, hr, hb⟩
    have S3 := S2.below hb
    have z3 : w2.heap.size + 1 ≤ w3.heap.size := by have := hb.size; simpa using this
    have zg : w2.heap.size + 1 ≤ g := by simpa using hg0
    clear S2 hb
    gi_wp2_with fail
    refine ⟨trivial, (callsIn_wide.2 (ringKeys_any _ _ _ _)).mono ?_⟩
    rintro e w4 ⟨rfl, rfl⟩
    gi_wp2_with fail
    have bN := Boxed.new w3 52 (.slice (some ⟨g, 0, none⟩) T.zs.length T.zs.length)
    have SL : Hid (St w w3 [It.box (w.heap.size + 1) #[.int .i64 0, .int .i64 0, .slice none 0 0] 27]) := Lib.hid (S3.turn fun i hi => by
      simp only [List.mem_cons, List.not_mem_nil, or_false] at hi
      subst hi; simp)
    have SLl : Hid (∀ i ∈ [It.box (w.heap.size + 1) #[.int .i64 0, .int .i64 0, .slice none 0 0] 27], i.hi ≤ w.heap.size + 2) := Lib.hid (fun i hi => by
      simp only [List.mem_cons, List.not_mem_nil, or_false] at hi
      subst hi; simp [It.box])
    have H0 : Hid (HoldsT w2.heap.size (w.heap.size + 2) (freeT T) w3) := Lib.hid ⟨a2, c2, by have := S3.cells 0 rfl; simpa [freeT] using this, (S3.owns 1 rfl).mono (by omega)⟩
    refine wpIn_rangeFunc_ownG (n := 9) rfl (by omega) (gf := 113) (lb := #[.pointer (some ⟨w3.heap.size, 0, none⟩)]) rfl trivial (enters_of Tryz.func113 (by kernel_rfl) rfl)
      (ringKeysB_stops 8 (by omega) w3.heap.size g T (by omega) _ (by simp; omega) (by simp) bN.cell (hr.below ((Below.refl _ w3).alloc (Nat.le_refl _) _) hg)) KeepBlock.trans (fun W l o o' hl h _ _ => ⟨by simp, keep_put (by simp at hl; omega)⟩) (Below.refl _ _) (fun _ => rfl)
      (fun pre W => HoldsT w2.heap.size (w.heap.size + 2) (putsT T (pre.map Subtype.val)) W ∧ Below (w.heap.size + 2) w3 W)
      (fun _ _ _ => False)
      (OwnFrom.and (Own.from (holdsT_own w2.heap.size (w.heap.size + 2) (fun pre : List KeyB => putsT T (pre.map Subtype.val))) _) (ownFrom_below (by omega) (by simp; omega)))
      (fun _ _ _ _ _ hs _ _ => hs)
      ⟨holdsT_own w2.heap.size (w.heap.size + 2) (fun _ : Unit => freeT T) () _ _ none H0.out (World.grownBy_alloc w3 _ none) (fun r e => by cases e), (Below.refl _ w3).alloc (by omega) _⟩
      (fun x => { tmps := #[tabV T a c, .pointer (some ⟨w.heap.size, 0, none⟩), .pointer (some ⟨w.heap.size + 1, 0, none⟩), .bool false, .pointer (some ⟨w2.heap.size, 0, none⟩), .bool true, .int .i64 x.1, .agg #[.int .i64 T.t, .int .i64 T.p, .slice a T.zs.length c], .bool true, .bool false, undef, .tuple #[.agg #[.int .i64 T.t, .int .i64 T.p, .slice a2 T.zs.length c2], .bool true], .pointer (some ⟨w.heap.size, 2, none⟩), .slice a T.zs.length c, .int .i64 T.zs.length, .pointer (some ⟨w.heap.size, 0, none⟩), .int .i64 T.t, .pointer (some ⟨w.heap.size, 1, none⟩), .int .i64 T.p, .tuple #[.agg #[.int .i64 T.t, .int .i64 T.p, .slice a2 T.zs.length c2], .bool true], .agg #[.int .i64 T.t, .int .i64 T.p, .slice a2 T.zs.length c2], .bool true, .agg #[.int .i64 T.t, .int .i64 T.p, .slice a T.zs.length c], .slice (some ⟨g, 0, none⟩) T.zs.length T.zs.length, .func (.func 113) #[] #[.pointer (some ⟨w3.heap.size, 0, none⟩)], .int .i64 x.1, undef, undef, undef, undef, undef, undef, undef], defers := [] }) ?assign ?body ?done ?stop
    case assign =>
      intro l x W K hK
      gi_wp2
      exact hK
    case body =>
      rintro l pre x W ⟨⟨a', c', hbox, hown⟩, hB⟩ hlt
      have hCl := putsT_len hn.2 (pre.map Subtype.val)
      have HE : Hid (putsT T ((pre ++ [x]).map Subtype.val) = putT (putsT T (pre.map Subtype.val)) x.1) := Lib.hid (by rw [List.map_append]; exact putsT_snoc T _ _)
      generalize putsT T (pre.map Subtype.val) = C at hbox hown hCl HE
      have hzW : w3.heap.size ≤ W.heap.size := hB.size
      obtain ⟨x0, x1, x2, x3, x4, x5, xz⟩ := facts3 hbox
      gi_wp2_with fail
      clear x0 x1 x2 x3 x4 x5 xz
      refine ⟨trivial, (CallsIn.inRound l (callsIn_wide.2 (PutKey_any C a' c' x.1 _ (by omega) hown.ints))).mono ?_⟩
      rintro e w5 ⟨a5, c5, rfl, ho5, hb5⟩
      have hbox5 := (hb5.block w2.heap.size (by omega)).trans hbox
      have z5 := hb5.size
      have K5 : KeepsFrom (w3.heap.size + 1) W w5 := KeepsFrom.of_below hb5
      have G5 : KeepBlock g W w5 := KeepBlock.of_below hb5 (by omega)
      have B5 := hB.trans (hb5.mono (by omega : w.heap.size + 2 ≤ W.heap.size))
      generalize putT C x.1 = D at HE ho5
      have HF : Hid (∀ W6, W6 = ((w5.setCell ⟨w2.heap.size, 0, none⟩ (.int .i64 D.t)).setCell ⟨w2.heap.size, 1, none⟩ (.int .i64 D.p)).setCell ⟨w2.heap.size, 2, none⟩ (.slice a5 D.zs.length c5) →
          KeepsFrom (w3.heap.size + 1) W W6 ∧ KeepBlock g W W6 ∧ HoldsT w2.heap.size (w.heap.size + 2) D W6 ∧ Below (w.heap.size + 2) w3 W6) := Lib.hid (by
        rintro W6 rfl
        have o5 : ∀ p : Addr, a5 = some p → p.block ≠ w2.heap.size := fun p hp => by have := (ho5.1 p hp).1; omega
        refine ⟨keepsFrom_set (keepsFrom_set (keepsFrom_set K5 (by omega) _) (by omega) _) (by omega) _, keepBlock_set (keepBlock_set (keepBlock_set G5 (by omega) _) (by omega) _) (by omega) _, ⟨a5, c5, ?_, ?_⟩, set3 B5 (by omega) _ _ _⟩
        · exact setCell_at (setCell_at (setCell_at hbox5 0 _) 1 _) 2 _
        · exact (((ho5.setOther (p := ⟨w2.heap.size, 0, none⟩) (by simp only; omega) _).setOther (p := ⟨w2.heap.size, 1, none⟩) (by simp only; omega) _).setOther (p := ⟨w2.heap.size, 2, none⟩) (by simp only; omega) _).mono (by omega))
      clear hbox hown hB hb5 ho5 K5 G5 B5
      obtain ⟨x0, x1, x2, x3, x4, x5, xz⟩ := facts3 hbox5
      gi_wp2_with fail
      have F := HF.out _ rfl
      exact ⟨by simpa using F.1, F.2.1, by rw [HE.out]; exact F.2.2.1, F.2.2.2⟩
    case done =>
      rintro D ys W hD hys ⟨hH, hB⟩ hK
      rw [hys] at hH
      obtain ⟨a', c', hbox, hown⟩ := hH
      have CI := clean_to HV.out T.zs.length (Nat.le_refl _)
      rw [List.take_length] at CI
      have hbox : W.heap[w2.heap.size]? = some (.cells #[.int .i64 T.t, .int .i64 T.p, .slice a' T.zs.length c'] 27 (0, 0)) := by
        have h2 : keysL T.zs = keysLL T.zs := rfl
        rw [h2, CI.t, CI.p, CI.len] at hbox
        exact hbox
      have hown : OwnInts W (w.heap.size + 2) a' (putsT T (keysLL T.zs)).zs := hown
      have SW := SL.out.low hB (by omega) SLl.out
      obtain ⟨x0, x1, x2, x3, x4, x5, xz⟩ := facts3 hbox
      obtain ⟨y0, y1, y2, y3, y4, y5, yz⟩ := facts3 (SW.cells 0 rfl)
      obtain ⟨W6, hW6⟩ : ∃ W6, ((W.setCell ⟨w.heap.size + 1, 0, none⟩ (.int .i64 T.t)).setCell ⟨w.heap.size + 1, 1, none⟩ (.int .i64 T.p)).setCell ⟨w.heap.size + 1, 2, none⟩ (.slice a' T.zs.length c') = W6 := ⟨_, rfl⟩
      have zD : w3.heap.size + 1 ≤ D := by simpa using hD
      have hD6 : W6.heap[D]? = some (.deferred (some [])) := by
        rw [← hW6]
        exact (Below.heap_setCell _ ⟨w.heap.size + 1, 2, none⟩ _ D (by simp only; omega)).trans ((Below.heap_setCell _ ⟨w.heap.size + 1, 1, none⟩ _ D (by simp only; omega)).trans ((Below.heap_setCell _ ⟨w.heap.size + 1, 0, none⟩ _ D (by simp only; omega)).trans hK))
      have H6 : HoldsT (w.heap.size + 1) (w.heap.size + 2) (putsT T (keysLL T.zs)) W6 := by
        refine ⟨a', c', ?_, ?_⟩
        · rw [← hW6, CI.t, CI.p, CI.len]
          exact setCell_at (setCell_at (setCell_at (SW.cells 0 rfl) 0 _) 1 _) 2 _
        · rw [← hW6]
          exact ((hown.setOther (p := ⟨w.heap.size + 1, 0, none⟩) (by simp only; omega) _).setOther (p := ⟨w.heap.size + 1, 1, none⟩) (by simp only; omega) _).setOther (p := ⟨w.heap.size + 1, 2, none⟩) (by simp only; omega) _
      have H7 := holdsT_own (w.heap.size + 1) (w.heap.size + 2) (fun _ : Unit => putsT T (keysLL T.zs)) () W6 _ (some D) H6 (grownBy_putObj' W6 D (.deferred none)) (fun r e => by cases e; exact ⟨_, hD6, rfl⟩)
      have B6 : Below w.heap.size w W6 := by rw [← hW6]; exact set3 SW.old (by omega) _ _ _
      have B7 := B6.trans (belowK_b (w := w) (Nat.le_refl _) W6 D _ (.deferred none) (by omega) hD6 rfl rfl)
      obtain ⟨a7, c7, hb7, ho7⟩ := H7
      rw [CI.t, CI.p, CI.len] at hb7
      gi_wp2_with fail
      try rw [hW6]
      refine ⟨by simp, .inl ⟨_, _, rfl, run_takeDeferred hD6, ?_⟩⟩
      obtain ⟨o0, o1, o2, o3, o4, o5, oz⟩ := facts3 hb7
      refine ⟨.tuple #[tbl T.t T.p a7 T.zs.length c7, .bool true], by simp [results, Tryz.results30, go_sem, o0, o1, o2], ?_⟩
      exact cleanRes_yes HS.out (ho7.mono (by omega)) B7
    case stop =>
      rintro D c pre W _ _ h _
      exact h.elim

end Go.Proofs.YtpncpeokdcolpaaGreatDoor

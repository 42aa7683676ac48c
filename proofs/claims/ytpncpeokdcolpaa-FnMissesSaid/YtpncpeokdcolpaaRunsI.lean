/-
  The program's runs: a labelled loop over a ring's slots, in whose round a range over a function goes around the ring.
-/
import Derived.Scope
import Derived.Test.YtpncpeokdcolpaaTakenI
import Derived.Test.YtpncpeokdcolpaaAround2
import Derived.Test.YtpncpeokdcolpaaMath
import Derived.Test.YtpncpeokdcolpaaRunAt
import Derived.Test.YtpncpeokdcolpaaLostI
namespace Go.Proofs.Ytpncpeokdcolpaa
open Go.RowKit Go.Shelf
attribute [local go_sem] Oper.semAt_some

/-- What is known of memory when some runs have been found: the taken slots, the row of runs, the marks of the loops that are over. -/
structure RunsRow (T : Tab) (w : World) (B3 : Nat) (rs : List (Nat × Nat)) (ds : List Nat) (v : Value) (W : World) : Prop where
  old : Below w.heap.size w W
  tk : W.heap[B3]? = some (.cells (takenA T T.zs.length) 89 (0, 0))
  box : Boxed W (B3 + 1) 43 v
  row : W.ownsRow (B3 + 1 + 1) 37 2 v rs.length (cellsR rs)
  nd : ds.Nodup
  mks : ∀ D, D ∈ ds → B3 + 1 < D ∧ W.heap[D]? = some (.deferred (some []))

theorem RunsRow.lt {T : Tab} {B3 : Nat} {w W : World} {rs : List (Nat × Nat)} {ds : List Nat} {v : Value} (h : RunsRow T w B3 rs ds v W) : B3 + 1 < W.heap.size := h.box.lt
theorem RunsRow.mkLt {T : Tab} {B3 : Nat} {w W : World} {rs : List (Nat × Nat)} {ds : List Nat} {v : Value} (h : RunsRow T w B3 rs ds v W) {D : Nat} (hD : D ∈ ds) : D < W.heap.size := (Array.getElem?_eq_some_iff.1 (h.mks D hD).2).1
theorem RunsRow.below {T : Tab} {B3 : Nat} {w W W' : World} {rs : List (Nat × Nat)} {ds : List Nat} {v : Value} (h : RunsRow T w B3 rs ds v W) (hb : Below W.heap.size W W') : RunsRow T w B3 rs ds v W' :=
  ⟨h.old.trans (hb.mono h.old.size), (hb.block _ (by have := h.lt; omega)).trans h.tk, (hb.block _ h.lt).trans h.box, ownsRow_below h.row hb, h.nd, fun D hD => ⟨(h.mks D hD).1, (hb.block D (h.mkLt hD)).trans (h.mks D hD).2⟩⟩
theorem RunsRow.grown {T : Tab} {B3 : Nat} {w W W' : World} {rs : List (Nat × Nat)} {ds : List Nat} {v : Value} {row : Option Nat} (h : RunsRow T w B3 rs ds v W) {B : Nat} (hB : B3 + 1 < B) (hw : w.heap.size ≤ B3) (hm : ∀ D, D ∈ ds → D < B)
    (hg : W.grownBy W' row) (hr : ∀ r, row = some r → B ≤ r ∧ ∃ o : Obj, W.heap[r]? = some o ∧ o.isCells = false) : RunsRow T w B3 rs ds v W' := by
  have hne : ∀ b, b < B → some b ≠ row := fun b hb e => by have := (hr b e.symm).1; omega
  have hlt := h.lt
  refine ⟨h.old.trans (grownBy_below hg h.old.size (fun k e => by have := (hr k e).1; omega)), (hg.block _ (by omega) (hne _ (by omega))).trans h.tk, (hg.block _ hlt (hne _ hB)).trans h.box, ?_, h.nd, fun D hD => ⟨(h.mks D hD).1, (hg.block D (h.mkLt hD) (hne D (hm D hD))).trans (h.mks D hD).2⟩⟩
  refine h.row.kept hg ?_
  rcases h.row.2 with ⟨e, _⟩ | ⟨g, cap, cur, e, _, hgb, _⟩
  · rw [e]; exact .inl rfl
  · refine .inr fun e' => ?_
    rw [e] at e'
    obtain ⟨_, o, ho, hc⟩ := hr g e'.symm
    rw [hgb] at ho; cases ho; cases hc

/-- One run more. -/
theorem RunsRow.more {T : Tab} {B3 : Nat} {w W w5 : World} {rs : List (Nat × Nat)} {ds : List Nat} {v v' : Value} {x y : Nat} {tmp : Obj} (h : RunsRow T w B3 rs ds v W) (hw : w.heap.size ≤ B3)
    (hown : w5.ownsRow (B3 + 1 + 1) 37 2 v' (rs.length + 1) (cellsR rs ++ [.int .i64 x, .int .i64 y])) (hg : (W.alloc tmp).grownBy w5 v.ownBlock) :
    Boxed w5 (B3 + 1) 43 v ∧ RunsRow T w B3 (rs ++ [(x, y)]) ds v' (w5.setCell ⟨B3 + 1, 0, none⟩ v') ∧ KeepsOthers W (w5.setCell ⟨B3 + 1, 0, none⟩ v') := by
  have hlt := h.lt
  obtain ⟨hv1, hv2, hr2, hk2, hb2⟩ := h.box.appended (n₀ := B3 + 1) (by decide) (ownsRow_weaken h.row (by omega)) (by omega) (Nat.le_refl _) (ownsRow_weaken hown (by omega)) hg
  refine ⟨hv1, ⟨h.old.trans (hb2.mono (by omega)), (hb2.block _ (by omega)).trans h.tk, hv2, ?_, h.nd, fun D hD => ⟨(h.mks D hD).1, hk2.same D _ (h.mks D hD).2 rfl⟩⟩, hk2⟩
  rw [List.length_append, cellsR_snoc]
  refine hown.kept (grownBy_setCell' w5 _ v') (.inr (hv1.not_row (by decide) hown).symm)

/-- Slots of an array, from its first one on. -/
theorem slice_arr (n b : Nat) (hn : n ≤ 16) (w : World) : (Instr.sliceAt 89 (.pointer (some ⟨b, 0, none⟩)) none (some (.int .i64 n)) none).run Try.prog w = .ok (.slice (some ⟨b, 0, none⟩) n 16) w := by
  have ha : Try.prog.arrayLen 89 = 16 := by kernel_rfl
  have hs : (sizeOf (Try.prog.elem 89)).run Try.prog w = .ok 1 w := by kernel_rfl
  rw [run_sliceAt_array_h (P := Try.prog) w 89 ⟨b, 0, none⟩ (by kernel_rfl) .i64 (n : Int) (by omega) (by rw [ha]; omega), hs]
  simp [ha, slicedAt, Result.andThen, Addr.add]

theorem ownsRow_sliceV {W : World} {base : Nat} {e : TypeId} {size : Nat} {v : Value} {n : Nat} {xs : List Value} (h : W.ownsRow base e size v n xs) : ∃ a' c', v = .slice a' n c' := by
  rcases h.2 with ⟨rfl, rfl⟩ | ⟨g, cap, cur, rfl, _⟩
  · exact ⟨_, _, rfl⟩
  · exact ⟨_, _, rfl⟩

/-- Where a run has come to its end. -/
def RunsOut (T : Tab) (w : World) (B3 k : Nat) (ds : List Nat) (c : Code) (pre : List Nat) (W : World) : Prop :=
  ∃ pre' x' v', c = .exit 1 ∧ pre = pre' ++ [x'] ∧ Taken' T k pre' ∧ nth T.zs (stepS T k x') = -1 ∧ RunsRow T w B3 (runsTo T k ++ [(k, pre'.length)]) ds v' W

/-- Ahead of a round. -/
def RunsInv (T : Tab) (g : Nat) (w : World) (B3 : Nat) (vA : Value) (a : Act) (W : World) : Prop :=
  ∃ (k : Nat) (ds : List Nat) (v : Value) (u21 u5 u6 u7 u22 u23 u24 u25 u26 u27 u28 u29 u30 u31 u32 u33 u34 u35 u36 u37 u38 u39 u40 u41 u42 u43 u44 u45 u46 u47 u48 u49 u50 u51 u52 u53 u54 u55 : Value), k ≤ T.zs.length ∧ u21 = .int .i64 k ∧ RunsRow T w B3 (runsTo T k) ds v W ∧ a = { tmps := #[.slice (some ⟨g, 0, none⟩) T.zs.length T.zs.length, undef, .slice none 0 0, .pointer (some ⟨B3, 0, none⟩), .pointer (some ⟨B3 + 1, 0, none⟩), u5, u6, u7, .slice (some ⟨g, 0, none⟩) T.zs.length T.zs.length, vA, .slice (some ⟨g, 0, none⟩) T.zs.length T.zs.length, .int .i64 T.zs.length, .slice (some ⟨B3, 0, none⟩) T.zs.length 16, .bool true, .bool false, undef, undef, undef, undef, .slice (some ⟨g, 0, none⟩) T.zs.length T.zs.length, .int .i64 T.zs.length, u21, u22, u23, u24, u25, u26, u27, u28, u29, u30, u31, u32, u33, u34, u35, u36, u37, u38, u39, u40, u41, u42, u43, u44, u45, u46, u47, u48, u49, u50, u51, u52, u53, u54, u55, undef], defers := ds.map fun D => { target := .collected D, args := #[] } }

set_option maxRecDepth 100000 in
set_option maxHeartbeats 4000000 in
theorem runs_any (T : Tab) (g : Nat) (w : World) (hv : validB T = true) (hR : RingAt w g T) (hg : g < w.heap.size) :
    Calls Try.prog 53 #[.slice (some ⟨g, 0, none⟩) T.zs.length T.zs.length] w fun e w' => ∃ (a' : Option Addr) (c' : Nat), e = .returned (.slice a' (runsL T).length c') ∧ w'.ownsRow w.heap.size 37 2 (.slice a' (runsL T).length c') (runsL T).length (cellsR (runsL T)) ∧ Below w.heap.size w w' := by
  obtain ⟨i0, hi, hz0, hz1, hz2⟩ := info_parts infoR
  have HI := Lib.hid hi; have HZ0 := Lib.hid hz0; have HZ1 := Lib.hid hz1; have HZ2 := Lib.hid hz2
  clear hi hz0 hz1 hz2
  obtain ⟨⟨l1, l2⟩, _⟩ := valid_facts hv
  have HV := Lib.hid hv
  have HR := Lib.hid hR
  clear hv hR
  refine (callsIn_wide (n := 9)).1 ?_
  refine callsIn_of_wp_marks Try.func53 rfl trivial ?_ rfl
  simp only [Try.ntmps53, List.size_toArray, List.length_cons, List.length_nil, Nat.reduceAdd, Nat.reduceSub, Array.replicate_succ, Array.replicate_zero, List.push_toArray, List.append_toArray, List.nil_append, List.cons_append]
  gi_wp2_with fail
  refine wpIn_wide.2 (wp_scope_straight ((wpIn_wide (n := 9)).1 ?_))
  obtain ⟨b0, b1, b2, b3, b4, b5, b6, b7, b8, b9, b10, b11, b12, b13, b14, b15, hTA⟩ : ∃ b0 b1 b2 b3 b4 b5 b6 b7 b8 b9 b10 b11 b12 b13 b14 b15 : Bool, takenA T T.zs.length = #[.bool b0, .bool b1, .bool b2, .bool b3, .bool b4, .bool b5, .bool b6, .bool b7, .bool b8, .bool b9, .bool b10, .bool b11, .bool b12, .bool b13, .bool b14, .bool b15] := ⟨_, _, _, _, _, _, _, _, _, _, _, _, _, _, _, _, rfl⟩
  have HTA := Lib.hid hTA
  have HT := taken_any T g w HV.out HR.out hg
  rw [hTA] at HT
  clear hTA
  gi_wp2_with fail
  refine ⟨trivial, (callsIn_wide.2 HT).mono ?_⟩
  rintro e w1 ⟨rfl, hb⟩
  clear HT
  have hz := hb.size
  have hsl := slice_arr T.zs.length w1.heap.size l2
  gi_wp2_with fail
  have HB1 : BoolsAt (w1.alloc (.cells #[.bool b0, .bool b1, .bool b2, .bool b3, .bool b4, .bool b5, .bool b6, .bool b7, .bool b8, .bool b9, .bool b10, .bool b11, .bool b12, .bool b13, .bool b14, .bool b15] 89)) w1.heap.size 16 (tk T T.zs.length) := boolsAt_of (T := T) (k := T.zs.length) (t := 89) (by rw [HTA.out]; exact heap_alloc_new w1 _)
  have HC := containsB_any w1.heap.size T.zs.length 16 (tk T T.zs.length) false _ (by omega) (fun i hi => HB1 i (by omega))
  have hW1 : Below w.heap.size w (w1.alloc (.cells #[.bool b0, .bool b1, .bool b2, .bool b3, .bool b4, .bool b5, .bool b6, .bool b7, .bool b8, .bool b9, .bool b10, .bool b11, .bool b12, .bool b13, .bool b14, .bool b15] 89)) := hb.alloc hz _
  have hT1 : (w1.alloc (.cells #[.bool b0, .bool b1, .bool b2, .bool b3, .bool b4, .bool b5, .bool b6, .bool b7, .bool b8, .bool b9, .bool b10, .bool b11, .bool b12, .bool b13, .bool b14, .bool b15] 89)).heap[w1.heap.size]? = some (.cells (takenA T T.zs.length) 89 (0, 0)) := by rw [HTA.out]; exact heap_alloc_new w1 _
  have hzz := w1.size_alloc (.cells #[.bool b0, .bool b1, .bool b2, .bool b3, .bool b4, .bool b5, .bool b6, .bool b7, .bool b8, .bool b9, .bool b10, .bool b11, .bool b12, .bool b13, .bool b14, .bool b15] 89)
  refine ⟨trivial, ?_⟩
  generalize w1.alloc (.cells #[.bool b0, .bool b1, .bool b2, .bool b3, .bool b4, .bool b5, .bool b6, .bool b7, .bool b8, .bool b9, .bool b10, .bool b11, .bool b12, .bool b13, .bool b14, .bool b15] 89) = W1 at HC HB1 hW1 hT1 hzz ⊢
  have hdec : decide (∃ i, i < T.zs.length ∧ tk T T.zs.length i = false) = decide (∃ i, i < T.zs.length ∧ nth T.zs i = -1) := by
    rw [decide_eq_decide]
    constructor
    · rintro ⟨i, h1, h2⟩
      exact ⟨i, h1, by simpa [tk, h1] using h2⟩
    · rintro ⟨i, h1, h2⟩
      exact ⟨i, h1, by simp [tk, h1, h2]⟩
  rw [hdec] at HC
  clear hdec hsl hb
  refine (callsIn_wide.2 HC).mono ?_
  clear HC
  by_cases hf : ∃ i, i < T.zs.length ∧ nth T.zs i = -1
  · rw [decide_eq_true hf]
    rintro e w2 ⟨rfl, rfl⟩
    obtain ⟨fi, hfi, hff⟩ := hf
    have HRS := Lib.hid (runs_some l1 hfi hff)
    have HSF := Lib.hid fun (i : Nat) (hi : i < T.zs.length) => startB_free l1 hfi hff hi
    have HFF := Lib.hid hff
    clear hff
    gi_wp2_with fail
    refine wpIn_label ?_
    gi_wp2_with fail
    refine wpIn_loop (RunsInv T g w w1.heap.size (.agg #[.bool b0, .bool b1, .bool b2, .bool b3, .bool b4, .bool b5, .bool b6, .bool b7, .bool b8, .bool b9, .bool b10, .bool b11, .bool b12, .bool b13, .bool b14, .bool b15])) (fun a _ => T.zs.length - (intOf (a.tmps.getD 21 undef)).toNat) ?start ?round
    case start =>
      have hW2 : RunsRow T w w1.heap.size (runsTo T 0) [] (.slice none 0 0) (W1.alloc (.cells #[.slice none 0 0] 43)) := ⟨hW1.alloc hW1.size _, (Below.heap_alloc W1 _ _ (by omega)).trans hT1, by
        have := Boxed.new W1 43 (.slice none 0 0)
        rwa [hzz] at this, World.ownsRow_nil _ _ _ _, List.nodup_nil, fun D h => by cases h⟩
      exact ⟨0, [], _, _, _, _, _, _, _, _, _, _, _, _, _, _, _, _, _, _, _, _, _, _, _, _, _, _, _, _, _, _, _, _, _, _, _, _, _, _, _, Nat.zero_le _, rfl, hW2, rfl⟩
    case round =>
      rintro a' wr ⟨k, ds, v, u21, u5, u6, u7, u22, u23, u24, u25, u26, u27, u28, u29, u30, u31, u32, u33, u34, u35, u36, u37, u38, u39, u40, u41, u42, u43, u44, u45, u46, u47, u48, u49, u50, u51, u52, u53, u54, u55, hk, rfl, hrel, rfl⟩
      clear hT1 HB1 HTA
      by_cases hlt : k < T.zs.length
      · have k0 : (0 : Int) ≤ (k : Int) := by omega
        have k1 : (k : Int) < (T.zs.length : Int) := by omega
        have k16 : k < 16 := by omega
        have kk : (k : Int) < 16 := by omega
        have hb := boolsAt_of hrel.tk
        have c0 := hb k k16
        have e0 : tk T T.zs.length k = (nth T.zs k != -1) := by simp [tk, hlt]
        have hpl := prevS_lt l1 k
        have c1 := hb (prevS T k) (by omega)
        have e1 : tk T T.zs.length (prevS T k) = (nth T.zs (prevS T k) != -1) := by simp [tk, hpl]
        rw [e0] at c0
        rw [e1] at c1
        have HPT := Lib.hid (prev_tmod l1 k)
        have HST := Lib.hid (HSF.out k hlt)
        have HYES := Lib.hid fun (h : startB T k = true) => runsTo_yes h
        have HNO := Lib.hid fun (h : startB T k = false) => runsTo_no h
        have HREL := Lib.hid hrel
        clear hb e0 e1 hrel
        obtain ⟨x, hx⟩ : ∃ x, (nth T.zs k != -1) = x := ⟨_, rfl⟩
        obtain ⟨y, hy⟩ : ∃ y, (nth T.zs (prevS T k) != -1) = y := ⟨_, rfl⟩
        rw [hx] at c0 HST
        rw [hy] at c1 HST
        clear hx hy
        generalize prevS T k = pp at c1 HPT hpl
        have p0 : (0 : Int) ≤ (pp : Int) := by omega
        have p1 : (pp : Int) < 16 := by omega
        cases x
        · have HN := Lib.hid (HNO.out (by rw [HST.out]; rfl))
          gi_wp2_with fail
          refine ⟨trivial, ?_⟩
          gi_wp2_with fail
          exact ⟨⟨k + 1, ds, v, _, _, _, _, _, _, _, _, _, _, _, _, _, _, _, _, _, _, _, _, _, _, _, _, _, _, _, _, _, _, _, _, _, _, _, _, _, _, by omega, by go_num, by rw [HN.out]; exact HREL.out, rfl⟩, by simp [intOf]; omega⟩
        · cases y
          · have HY := Lib.hid (HYES.out (by rw [HST.out]; rfl))
            gi_wp2_with (first | (refine ⟨trivial, ?_⟩; gi_at_call 54; refine (callsIn_wide.2 (wrap_any _ _ _ _ _ l1 l2 (by omega) (by omega))).mono ?_; rintro e w' ⟨rfl, rfl⟩; rw [HPT.out]) | (refine ⟨trivial, ?_⟩; gi_at_call 42; refine (callsIn_wide.2 (ringAround_any _ _ _ _ _)).mono ?_; rintro e w' ⟨rfl, rfl⟩))
            have hrlt := HREL.out.lt
            have Sx := (((St.start wr).alloc #[.int .i64 k, .int .i64 0] 37).alloc #[.slice (some ⟨g, 0, none⟩) T.zs.length T.zs.length] 52).alloc #[.int .i64 k] 3
            have z4 : (((wr.alloc (.cells #[.int .i64 k, .int .i64 0] 37)).alloc (.cells #[.slice (some ⟨g, 0, none⟩) T.zs.length T.zs.length] 52)).alloc (.cells #[.int .i64 k] 3)).heap.size = wr.heap.size + 3 := by simp
            simp only [World.size_alloc] at Sx
            generalize ((wr.alloc (.cells #[.int .i64 k, .int .i64 0] 37)).alloc (.cells #[.slice (some ⟨g, 0, none⟩) T.zs.length T.zs.length] 52)).alloc (.cells #[.int .i64 k] 3) = W4 at Sx z4 ⊢
            have hB1 := (facts1 (Sx.cells 1 rfl)).1
            have hB2 := (facts1 (Sx.cells 0 rfl)).1
            have hC := Sx.cells 2 rfl
            have hb4 := Sx.old
            have R4 : RingAt W4 g T := HR.out.below (HREL.out.old.trans (hb4.mono HREL.out.old.size)) hg
            have hgr : g < wr.heap.size := Nat.lt_of_lt_of_le hg HREL.out.old.size
            have hmk : ∀ D, D ∈ ds → D < wr.heap.size := fun D hD => HREL.out.mkLt hD
            clear c0 c1
            refine wpIn_rangeFunc_ownH (n := 9) rfl (by omega) (gf := 66) (lb := #[.pointer (some ⟨wr.heap.size + 1, 0, none⟩), .pointer (some ⟨wr.heap.size + 1 + 1, 0, none⟩)]) rfl trivial (enters_of Try.func66 (by kernel_rfl) rfl)
              (ringAroundS_stops 8 (by omega) (fun b => b = g ∨ b = wr.heap.size + 1 ∨ b = wr.heap.size + 1 + 1) (wr.heap.size + 1) (wr.heap.size + 1 + 1) g k T l1 l2 hlt W4 hB1 hB2 R4 (.inr (.inl rfl)) (.inr (.inr rfl)) (.inl rfl) (by omega) (by omega) (by omega)) KeepS.trans (fun W l o o' hl _ _ _ => keepS_put (by rintro (e | e | e) <;> omega)) (Below.refl _ _) (fun _ => rfl)
              (fun pre W => Below wr.heap.size wr W ∧ W4.heap.size ≤ W.heap.size ∧ W.heap[wr.heap.size]? = some (.cells #[.int .i64 k, .int .i64 pre.length] 37 (0, 0)) ∧ Taken' T k pre)
              (RunsOut T w w1.heap.size k ds)
              (fun s X Y row hs hg' hr => by
                obtain ⟨h1, h2, h3, h4⟩ := hs
                exact ⟨h1.trans (grownBy_below hg' (by omega) (fun k e => by have := (hr k e).1; omega)), Nat.le_trans h2 hg'.size, (hg'.block _ (by omega) (fun e => by have := (hr _ e.symm).1; omega)).trans h3, h4⟩)
              (fun c s X Y row hs hg' hr => by
                obtain ⟨pre', x', v', e1, e2, e3, e4, e5⟩ := hs
                exact ⟨pre', x', v', e1, e2, e3, e4, e5.grown (B := W4.heap.size) (by omega) (by omega) (fun D hD => by have := hmk D hD; omega) hg' hr⟩)
              ⟨hb4, Nat.le_refl _, hC, fun _ h => by cases h⟩
              (fun y a' _ => a' = { tmps := #[.slice (some ⟨g, 0, none⟩) T.zs.length T.zs.length, undef, .slice none 0 0, .pointer (some ⟨w1.heap.size, 0, none⟩), .pointer (some ⟨w1.heap.size + 1, 0, none⟩), .int .i64 k, .pointer (some ⟨wr.heap.size, 0, none⟩), .int .i64 (stepS T k y), .slice (some ⟨g, 0, none⟩) T.zs.length T.zs.length, .agg #[.bool b0, .bool b1, .bool b2, .bool b3, .bool b4, .bool b5, .bool b6, .bool b7, .bool b8, .bool b9, .bool b10, .bool b11, .bool b12, .bool b13, .bool b14, .bool b15], .slice (some ⟨g, 0, none⟩) T.zs.length T.zs.length, .int .i64 T.zs.length, .slice (some ⟨w1.heap.size, 0, none⟩) T.zs.length 16, .bool true, .bool false, undef, undef, undef, undef, .slice (some ⟨g, 0, none⟩) T.zs.length T.zs.length, .int .i64 T.zs.length, .int .i64 k, .bool true, .int .i64 k, .int .i64 k, .pointer (some ⟨w1.heap.size, k, none⟩), .bool true, .bool false, .bool false, .slice (some ⟨g, 0, none⟩) T.zs.length T.zs.length, .int .i64 k, .int .i64 ((k : Int) - 1), .int .i64 pp, .pointer (some ⟨w1.heap.size, pp, none⟩), .bool false, .bool false, .int .i64 k, .agg #[.int .i64 k, .int .i64 0], .slice (some ⟨g, 0, none⟩) T.zs.length T.zs.length, .int .i64 k, .func (.func 66) #[] #[.pointer (some ⟨wr.heap.size + 1, 0, none⟩), .pointer (some ⟨wr.heap.size + 1 + 1, 0, none⟩)], .int .i64 (stepS T k y), .agg #[.int .i64 (nth T.zs (stepS T k y)), .int .i64 (homeT T (nth T.zs (stepS T k y)))], u43, u44, u45, u46, u47, u48, u49, u50, u51, u52, u53, u54, u55, undef], defers := [] })
              (fun x a' _ _ _ _ h _ _ => h) ?assign ?body ?done ?stop
            case assign =>
              rintro l pre y W K ⟨i1, i2, i3, i4⟩ hK
              gi_wp2
              exact hK _ _ (KeepsFrom.refl _ _) (KeepS.refl _ _) ⟨i1, i2, i3, i4⟩ rfl
            case body =>
              rintro l pre y a' W hl hrec ⟨i1, i2, i3, i4⟩ rfl hlt'
              have hkl := stepS_lt l1 k y
              have hRW := HREL.out.below i1
              have hb := boolsAt_of hRW.tk
              have c0 := hb (stepS T k y) (by omega)
              have e0 : tk T T.zs.length (stepS T k y) = (nth T.zs (stepS T k y) != -1) := by simp [tk, hkl]
              rw [e0] at c0
              clear hb e0
              have hpn : pre.length < 16 := by omega
              obtain ⟨r0, r1, r2, r3, rz⟩ := facts2 i3
              have v0 := hRW.box.cell
              have hrl := runsTo_len T k
              have HT4 := Lib.hid i4
              have HRW := Lib.hid hRW
              have HI1 := Lib.hid i1
              have HI3 := Lib.hid i3
              clear i1 i3 i4 hRW
              have HSS := Lib.hid (show nth T.zs (stepS T k y) = nth T.zs (stepS T k y) from rfl)
              generalize hkk : stepS T k y = q at *
              generalize hzz2 : nth T.zs q = z at *
              have HQ := Lib.hid hkk
              have HZ := Lib.hid hzz2
              clear hkk hzz2
              have q0 : (0 : Int) ≤ (q : Int) := by omega
              have q1 : (q : Int) < 16 := by omega
              by_cases hz1 : z = -1
              · have d : (z != -1) = false := by simp [hz1]
                rw [d] at c0
                have HR5 := Lib.hid HRW.out.row
                gi_wp2_with (gi_at_builtin; refine wpListIn_append_own _ rfl _ _ 43 rfl (w1.heap.size + 1 + 1) 37 i0 (.agg #[.int .i64 0, .int .i64 0]) 2 16 Try.underlying43 HI.out HZ0.out HZ1.out HZ2.out rfl (by decide) _ _ _ rfl (HR5.out.alloc _) ⟨W.heap.size, 0, none⟩ 1 1 [.int .i64 k, .int .i64 pre.length] rfl rfl (cell_two_new _ _ _ _) (by simp [Value.oneCell']) (by unfold maxLen; omega) (by omega) (by simp; omega) ?_; intro v' w5 hown' hgrow _; obtain ⟨g', cap', rfl⟩ := ownsRow_succ hown'; obtain ⟨hv1, hm2, hk2⟩ := HRW.out.more (by omega) hown' hgrow; have hc1 := hv1.cell; have hf1 := hv1.frozen; have HM2 := Lib.hid hm2; have HK2 := Lib.hid hk2; clear hm2 hk2 hown' hgrow)
                exact ⟨HK2.out.from _, pre, y, _, rfl, rfl, HT4.out, by rw [HQ.out, HZ.out]; exact hz1, HM2.out⟩
              · have d : (z != -1) = true := by simpa using hz1
                rw [d] at c0
                have hwr : wr.heap.size < W4.heap.size := by omega
                gi_wp2_with fail
                exact ⟨(KeepsOthers.setCell _ _ _).from _, (KeepS.refl _ W).set (p := ⟨wr.heap.size, 1, none⟩) (by rintro (e | e | e) <;> simp only at e <;> omega) _, HI1.out.setCell (p := ⟨wr.heap.size, 1, none⟩) (Nat.le_refl _) _, by simp only [World.setCell, Array.size_modify]; omega, by
                  rw [setCell_two HI3.out, List.length_append]; rfl, HT4.out.snoc (by rw [HQ.out, HZ.out]; exact hz1)⟩
            case done =>
              rintro D ys W hD rfl ⟨i1, i2, i3, i4⟩ hK
              exact absurd HFF.out (taken_all l1 hfi hlt i4)
            case stop =>
              rintro D c pre W hD ⟨n', hn', he⟩ ⟨pre', x', v', rfl, rfl, hf, hs, hrr⟩ hK
              have hsz := size_stop hn' he hf hs
              have hDW : W4.heap.size ≤ D := hD
              have HREL2 : Hid (RunsRow T w w1.heap.size (runsTo T (k + 1)) (D :: ds) v' W) := Lib.hid (by
                rw [HY.out, hsz]
                exact ⟨hrr.old, hrr.tk, hrr.box, hrr.row, List.nodup_cons.2 ⟨fun h => by have := hmk D h; omega, hrr.nd⟩, fun D' h => by
                  rcases List.mem_cons.1 h with rfl | h
                  · exact ⟨by omega, hK⟩
                  · exact hrr.mks D' h⟩)
              clear hrr hK
              gi_wp2_with fail
              exact ⟨⟨k + 1, D :: ds, v', _, _, _, _, _, _, _, _, _, _, _, _, _, _, _, _, _, _, _, _, _, _, _, _, _, _, _, _, _, _, _, _, _, _, _, _, _, _, by omega, by go_num, HREL2.out, rfl⟩, by simp [intOf]; omega⟩
          · have HN := Lib.hid (HNO.out (by rw [HST.out]; rfl))
            gi_wp2_with (first | (refine ⟨trivial, ?_⟩; gi_at_call 54; refine (callsIn_wide.2 (wrap_any _ _ _ _ _ l1 l2 (by omega) (by omega))).mono ?_; rintro e w' ⟨rfl, rfl⟩; rw [HPT.out]))
            exact ⟨⟨k + 1, ds, v, _, _, _, _, _, _, _, _, _, _, _, _, _, _, _, _, _, _, _, _, _, _, _, _, _, _, _, _, _, _, _, _, _, _, _, _, _, _, by omega, by go_num, by rw [HN.out]; exact HREL.out, rfl⟩, by simp [intOf]; omega⟩
      · obtain rfl : k = T.zs.length := by omega
        have HREL := Lib.hid hrel
        obtain ⟨q0, q1, q2⟩ := facts1 (show wr.heap[w1.heap.size + 1]? = some (.cells #[v] 43 (0, 0)) from hrel.box)
        clear hrel
        gi_wp2_with fail
        dsimp only [Exit.noGoto]
        have hrel := HREL.out
        obtain ⟨a', c', hva⟩ := ownsRow_sliceV hrel.row
        refine leaves_marks (J := fun W => Below w.heap.size w W ∧ W.ownsRow w.heap.size 37 2 v (runsTo T T.zs.length).length (cellsR (runsTo T T.zs.length))) (fun W hJ => ?_) ds wr hrel.nd (fun D hD => (hrel.mks D hD).2) (fun D W hD hJ h0 => ?_) ⟨hrel.old, ownsRow_weaken hrel.row (by omega)⟩
        · subst hva
          exact ⟨.slice a' (runsTo T T.zs.length).length c', by simp [results, Try.f53, Try.results53, go_sem], a', c', by rw [HRS.out], by rw [HRS.out]; exact hJ.2, hJ.1⟩
        · have := (hrel.mks D hD).1
          exact ⟨hJ.1.trans (belowK_b (w := w) (Nat.le_refl _) W D _ (.deferred none) (by omega) h0 rfl rfl), ownsRow_putObj hJ.2 (.deferred none) h0 rfl⟩
  · rw [decide_eq_false hf]
    rintro e w2 ⟨rfl, rfl⟩
    have HRF := Lib.hid (runs_full l1 fun i hi h => hf ⟨i, hi, h⟩)
    clear hf
    gi_wp2_with fail
    dsimp only [Exit.noGoto]
    refine ⟨.slice (some ⟨w1.heap.size + 1, 0, none⟩) 1 1, by simp [results, Try.f53, Try.results53, go_sem], some ⟨w1.heap.size + 1, 0, none⟩, 1, ?_, ?_, hW1.alloc hW1.size _⟩
    · rw [HRF.out]; rfl
    · rw [HRF.out]
      refine ⟨rfl, .inr ⟨w1.heap.size + 1, 1, _, rfl, by have := hW1.size; omega, by rw [← hzz]; exact heap_alloc_new W1 _, Nat.le_refl _, by unfold maxLen; omega, rfl, rfl⟩⟩

end Go.Proofs.Ytpncpeokdcolpaa

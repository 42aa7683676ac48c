/-
  The law FnFreeSlots: the walk.
-/
import Derived.Test.YtpbffdjiijpigaaCame
import Derived.Test.YtpbffdjiijpigaaDraw2T
import Derived.Test.YtpbffdjiijpigaaLawRuns
import Derived.Deep.AppendLies
namespace Go.Proofs.Ytpbffdjiijpigaa
open Go.RowKit

theorem St.storeRow {w0 w : World} {l : List It} {lo hi g : Nat} {zs : List Int} (h : St w0 w l) (n i : Nat) (hi' : i < zs.length) (hn : l[n]? = some (It.own lo hi (some ⟨g, 0, none⟩) zs)) (hf : Far (It.own lo hi (some ⟨g, 0, none⟩) zs) (l.eraseIdx n)) (hlo : w0.heap.size ≤ lo) (v : Int) :
    St w0 (w.setCell ⟨g, i, none⟩ (.int .i64 v)) (l.set n (It.own lo hi (some ⟨g, 0, none⟩) (zs.set i v))) := by
  have h5 := (h.owns n hn).set i hi' v
  rw [Nat.zero_add] at h5
  exact h.markAt (a := some ⟨g, 0, none⟩) (w' := w.setCell ⟨g, i, none⟩ (.int .i64 v)) ⟨rfl, rfl, rfl, by simp [World.setCell], fun k _ hk => Below.heap_setCell w ⟨g, i, none⟩ _ k (fun e => hk (by rw [e]; rfl))⟩ h5 n hn hf hlo
/-- A row is copied into a new block: what was known is known still. -/
theorem St.copyRow {w0 X w4 : World} {l : List It} {E g cap n base : Nat} {zs : List Int} (S : St w0 X l) (h0 : w0.heap.size ≤ E) (hE : ∀ i ∈ l, E < i.lo ∨ i.hi ≤ E) (hg : X.grownBy w4 (some E))
    (ho : w4.ownsRow base 3 1 (.slice (some ⟨g, 0, none⟩) n cap) n (zs.map (Value.int .i64))) (hlt : g < w4.heap.size) : St w0 w4 (It.own g (g + 1) (some ⟨g, 0, none⟩) zs :: l) := by
  have h1 := S.grown2 hg (fun k e => by cases e; exact ⟨h0, hE⟩)
  refine h1.add _ hlt ⟨⟨fun p hp => by cases hp; exact ⟨Nat.le_refl _, hlt⟩, (ownsRow_ints ho).2⟩, fun p hp => by cases hp; exact Nat.lt_succ_self _⟩
theorem St.news {w0 X W : World} {l : List It} {lo hi b o : Nat} {zs : List Int} (S : St w0 X l) (n : Nat) (hn : l[n]? = some (It.own lo hi (some ⟨b, o, none⟩) zs)) (hW : Below X.heap.size X W) :
    ∀ (j : Nat) (u : Value), (zs.map (Value.int .i64))[j]? = some u → W.cell? ((⟨b, o, none⟩ : Addr).add j) = some u := by
  intro j u hj
  have hj' : j < zs.length := by have := (List.getElem?_eq_some_iff.1 hj).1; simpa using this
  obtain ⟨b', o', e, h5⟩ := ((S.below hW).ints n hn) (by omega)
  cases e
  rw [List.getElem?_map, List.getElem?_eq_getElem hj'] at hj
  have h6 := h5 j hj'
  rw [List.getElem?_eq_getElem hj'] at h6
  rw [show (⟨b, o, none⟩ : Addr).add j = ⟨b, o + j, none⟩ by simp [Addr.add]]
  exact h6.trans (by simpa using hj)
theorem Far.box {b : Nat} {c c' : Array Value} {t t' : TypeId} {l : List It} (h : Far (It.box b c t) l) : Far (It.box b c' t') l := by
  induction l with
  | nil => trivial
  | cons x l ih => exact ⟨h.1, ih h.2⟩
theorem St.set3Box {w0 w : World} {l : List It} {b : Nat} {x y z : Value} {t : TypeId} (h : St w0 w l) (n : Nat) (hn : l[n]? = some (It.box b #[x, y, z] t)) (hf : Far (It.box b #[x, y, z] t) (l.eraseIdx n)) (hlo : w0.heap.size ≤ b) (x' y' z' : Value) :
    St w0 (((w.setCell ⟨b, 0, none⟩ x').setCell ⟨b, 1, none⟩ y').setCell ⟨b, 2, none⟩ z') (l.set n (It.box b #[x', y', z'] t)) := by
  have hlt : n < l.length := (List.getElem?_eq_some_iff.1 hn).1
  have e0 : ∀ i : It, (l.set n i)[n]? = some i := fun i => by simp [hlt]
  have e1 : ∀ i : It, (l.set n i).eraseIdx n = l.eraseIdx n := fun i => by rw [List.eraseIdx_set_eq]
  have c0 := setCell_arr (h.cells n hn) 0 x'
  have h1 := h.setBoxAt n hn 0 x' c0 hf hlo
  have c1 := setCell_arr (h1.cells n (e0 _)) 1 y'
  have h2 := h1.setBoxAt n (e0 _) 1 y' c1 (by rw [e1]; exact hf.box) hlo
  rw [List.set_set] at h2
  have c2 := setCell_arr (h2.cells n (e0 _)) 2 z'
  have h3 := h2.setBoxAt n (e0 _) 2 z' c2 (by rw [e1]; exact hf.box) hlo
  rw [List.set_set] at h3
  exact h3

set_option maxHeartbeats 4000000 in
theorem walkFnFreeSlots (w : World) (a : Option Addr) (len cap : Nat) (zs : List Int) (h : IsRow .u8 w a len cap zs) :
    Calls Try.prog 7 #[.slice a len cap] w fun e w' => e = .returned (.bool true) ∧ Below w.heap.size w w' := by
  obtain ⟨i0, hi, hz0, hz1, hz2⟩ := info_parts Try.info3
  have HI := Lib.hid hi; have HZ0 := Lib.hid hz0; have HZ1 := Lib.hid hz1; have HZ2 := Lib.hid hz2
  clear hi hz0 hz1 hz2
  obtain ⟨ys, rfl, hC, S0⟩ := came_of h
  clear h
  by_cases hs : ys.length ≤ 1048576
  · have t1 : decide (1048576 < (ys.length : Int)) = false := by simp; omega
    go_enter Try.func7, Try.ntmps7
    go_wp2_with fail
    refine (DrawIsSound_any (by exact S0) hC).mono ?_
    rintro e w1 ⟨T, a1, c1, lo, hi, rfl, hT, hlo, S1⟩
    obtain ⟨n1, n2⟩ := hT.len
    have S2 := S1.alloc #[.int .i64 T.t, .int .i64 T.p, .slice a1 T.zs.length c1] 29
    clear S1
    obtain ⟨x0, x1, x2, x3, x4, x5, xz⟩ := facts3 (S2.cells 0 rfl)
    have HSI := Lib.hid (IsSound_any T a1 c1)
    have HSS := Lib.hid (specIsSound_any T a1 c1)
    go_wp2_with fail
    go_region_held3 (fun w' => w'.cell? ⟨w1.heap.size, 0, none⟩ = some (.int .i64 T.t) ∧ w'.cell? ⟨w1.heap.size, 1, none⟩ = some (.int .i64 T.p) ∧ w'.cell? ⟨w1.heap.size, 2, none⟩ = some (.slice a1 T.zs.length c1))
      (first
        | exact ⟨x0, x1, x2⟩
        | exact S3.three 0 rfl
        | exact S4.three 0 rfl)
      (first
        | (go_at_call 27; refine (HSI.out _ (by omega) (by exact S2.drew.ints 1 rfl)).mono ?_; rintro e w5 ⟨rfl, hb⟩; have S3 := S2.drew.below hb; clear hb)
        | (go_at_call 28; refine (HSS.out _ (by omega) (by exact S3.ints 1 rfl)).mono ?_; rintro e w6 ⟨rfl, hb⟩; have S4 := S3.below hb; clear hb))
    clear x0 x1 x2 x3 x4 x5 xz S2 S3
    obtain ⟨x0, x1, x2, x3, x4, x5, xz⟩ := facts3 (S4.cells 0 rfl)
    cases hso : soundB T
    · rw [hso] at HSI
      go_wp2_with fail
      clear x0 x1 x2 x3 x4 x5 xz
      refine (HSI.out _ (by omega) (by exact S4.ints 1 rfl)).mono ?_
      rintro e w7 ⟨rfl, hb⟩
      have S5 := S4.below hb
      go_wp2
      go_ret
      exact ⟨rfl, S5.old⟩
    · rw [hso] at HSI
      have hv := (sound_all.1 hso).1
      have hrr : runsOf T = runsL T := by simp [runsOf, hv]
      have F := runs_facts hv
      have HFR := Lib.hid fun r hr hq => free_last hso (r := r) hr hq
      have HLQ := Lib.hid fun r hr hq => run_last hv (r := r) hr hq
      have HR := RunsOf_any T a1 c1
      rw [hrr, hv] at HR
      clear hrr
      generalize runsL T = rs at HR F HFR HLQ
      have HR := Lib.hid HR
      have HF := Lib.hid F
      have l16 := F.len
      have nn1 := F.n1
      have nn2 := F.n2
      clear F
      have HL := Lib.hid (flatR_len rs)
      go_wp2_with fail
      clear x0 x1 x2 x3 x4 x5 xz
      refine (HSI.out _ (by omega) (by exact S4.ints 1 rfl)).mono ?_
      rintro e w7 ⟨rfl, hb⟩
      have S5 := S4.below hb
      clear S4 hb
      obtain ⟨x0, x1, x2, x3, x4, x5, xz⟩ := facts3 (S5.cells 0 rfl)
      go_wp2_with fail
      clear x0 x1 x2 x3 x4 x5 xz
      refine (HR.out _ (by omega) (by exact S5.ints 1 rfl)).mono ?_
      rintro e w8 ⟨a2, c2, rfl, ho, hb⟩
      have S6 : ∃ l2 h2, St w w8 [It.own l2 h2 a2 (flatR rs), It.box w1.heap.size #[.int .i64 T.t, .int .i64 T.p, .slice a1 T.zs.length c1] 29, It.own lo hi a1 T.zs] := ⟨_, _, (S5.below hb).own (runs_own ho)⟩
      obtain ⟨l2, h2, S6⟩ := S6
      clear S5 ho hb
      obtain ⟨m, hm⟩ : ∃ m, rs.length = m := ⟨_, rfl⟩
      have HM := Lib.hid hm
      rw [hm] at l16
      rw [hm]
      clear hm
      go_wp2_with fail
      go_loopw [7, 8, 9, 30] (fun _ _ _ i wr => ∃ j : Nat, j ≤ m ∧ i = .int .i64 j ∧ St w wr [It.own l2 h2 a2 (flatR rs), It.box w1.heap.size #[.int .i64 T.t, .int .i64 T.p, .slice a1 T.zs.length c1] 29, It.own lo hi a1 T.zs]) (fun _ _ _ i _ => m - (intOf i).toNat)
      case atStart => exact ⟨0, Nat.zero_le _, rfl, S6⟩
      case round =>
        obtain ⟨j, hj, rfl, Sr⟩ := hrel
        clear S6
        obtain ⟨x0, x1, x2, x3, x4, x5, xz⟩ := facts3 (Sr.cells 1 rfl)
        by_cases hlt : j < m
        · obtain ⟨⟨p, q⟩, hpq⟩ : ∃ r, rs[j]? = some r := ⟨_, List.getElem?_eq_getElem (by rw [HM.out]; exact hlt)⟩
          obtain ⟨e1, e2, e3⟩ := HF.out.each j p q hpq
          obtain ⟨f1, f2⟩ := flatR_at hpq
          obtain ⟨b2, o2, x, y, rfl, p0, p1, X⟩ := (Sr.ints 0 rfl).two (HL.out.trans (by rw [HM.out])) hlt
          obtain rfl : (p : Int) = x := f1.symm.trans X.out.1
          obtain rfl : (q : Int) = y := f2.symm.trans X.out.2
          have hmem := List.mem_of_getElem? hpq
          have S7 := Sr.alloc #[.int .i64 p, .int .i64 q] 37
          have ln : ((T.zs.length : Int) == 0) = false := beq_eq_false_iff_ne.2 (by omega)
          have hne : ¬ T.zs = [] := by intro e; rw [e] at nn1; simp at nn1
          have hli := last_int (T := T) (p := p) e2
          have w0 : IntKind.i64.wrap ((p : Int) + (q : Int)) = (p : Int) + (q : Int) := IntWalk.i64_in _ ⟨by omega, by omega⟩
          have w00 : IntKind.i64.wrap ((p : Int) + (q : Int) - 1) = (p : Int) + (q : Int) - 1 := IntWalk.i64_in _ ⟨by omega, by omega⟩
          by_cases hq : q = T.zs.length
          · have dq : ((q : Int) == (T.zs.length : Int)) = true := by simp [hq]
            have HLI := Lib.hid hli
            clear f1 f2 hpq hq hli
            go_wp2_with fail
            go_roundw
            case rel => exact ⟨j + 1, by omega, by go_num, S7.turn fun i hi => List.mem_cons_of_mem _ hi⟩
            case measure => simp [intOf]; omega
          · have dq : ((q : Int) == (T.zs.length : Int)) = false := by simp; omega
            have hfr := HFR.out (p, q) hmem hq
            have hsl := stepS_lt (T := T) nn1 p (q - 1)
            simp only at hfr
            generalize stepS T p (q - 1) = ls at hli hfr hsl
            have HPU : Hid (∀ (a : Option Addr) (c : Nat) (W : World), IntsAt W a (T.zs.set ls (-1)) → Calls Try.prog 27 #[.agg #[.int .i64 T.t, .int .i64 T.p, .slice a T.zs.length c]] W fun e w' => e = .returned (.bool true) ∧ Below W.heap.size W w') := Lib.hid (by
              intro a c W h
              have := IsSound_any (putAt T ls (-1)) a c W (by simp [putAt]; omega) h
              rw [hfr] at this
              simpa [tabV, putAt] using this)
            clear f1 f2 hpq hfr
            obtain ⟨bT, oT, rfl, hct⟩ := (Sr.ints 2 rfl) (by omega)
            go_wp2_with fail
            clear p0 p1
            obtain ⟨RB, hRB⟩ : ∃ RB, wr.heap.size = RB := ⟨_, rfl⟩
            have z0 := Sr.size
            have z1 : h2 ≤ wr.heap.size := Sr.sz 0 rfl
            have z2 : w1.heap.size + 1 ≤ wr.heap.size := Sr.sz 1 rfl
            have z3 : hi ≤ wr.heap.size := Sr.sz 2 rfl
            have zW := wr.size_alloc (.cells #[.int .i64 p, .int .i64 q] 37)
            rw [hRB] at z0 z1 z2 z3 zW
            rw [hRB] at S7 ⊢
            clear Sr hRB hct
            generalize wr.alloc (.cells #[.int .i64 p, .int .i64 q] 37) = W7 at S7 zW ⊢
            have zlt : RB < W7.heap.size := by omega
            clear zW
            obtain ⟨x0, x1, x2, x3, x4, x5, xz⟩ := facts3 (S7.cells 2 rfl)
            have SA := (S7.below ((Below.refl _ _).alloc (Nat.le_refl _) (.cells #[] 3))).drew
            have SB := ((S7.alloc #[.int .i64 0, .int .i64 0, .slice none 0 0] 29).below ((Below.refl _ _).alloc (Nat.le_refl _) (.cells #[] 3))).drew
            have SC := ((S7.below ((Below.refl _ _).alloc (Nat.le_refl _) (.cells #[] 3))).alloc #[.int .i64 0, .int .i64 0, .slice none 0 0] 29).drew
            rw [World.size_alloc] at SC
            obtain ⟨xa0, xa1, xa2, xa3, xa4, xa5, xaz⟩ := facts3 ((S7.below ((Below.refl _ _).alloc (Nat.le_refl _) (.cells #[] 3))).cells 2 rfl)
            obtain ⟨xb0, xb1, xb2, xb3, xb4, xb5, xbz⟩ := facts3 ((S7.alloc #[.int .i64 0, .int .i64 0, .slice none 0 0] 29).cells 3 rfl)
            obtain ⟨xc0, xc1, xc2, xc3, xc4, xc5, xcz⟩ := facts3 (((S7.alloc #[.int .i64 0, .int .i64 0, .slice none 0 0] 29).below ((Below.refl _ _).alloc (Nat.le_refl _) (.cells #[] 3))).cells 3 rfl)
            obtain ⟨xd0, xd1, xd2, xd3, xd4, xd5, xdz⟩ := facts3 (((S7.below ((Below.refl _ _).alloc (Nat.le_refl _) (.cells #[] 3))).alloc #[.int .i64 0, .int .i64 0, .slice none 0 0] 29).cells 3 rfl)
            have oA := (row_start W7).drew
            have oB := row_start (W7.alloc (.cells #[.int .i64 0, .int .i64 0, .slice none 0 0] 29))
            rw [World.size_alloc] at oB
            have oB := oB.drew
            have oC := ((row_start W7).alloc (.cells #[.int .i64 0, .int .i64 0, .slice none 0 0] 29)).drew
            go_region_held3 (fun w' => w'.cell? ⟨w1.heap.size, 0, none⟩ = some (.int .i64 T.t) ∧ w'.cell? ⟨w1.heap.size, 1, none⟩ = some (.int .i64 T.p) ∧ w'.cell? ⟨w1.heap.size, 2, none⟩ = some (.slice (some ⟨bT, oT, none⟩) T.zs.length c1))
              (first
                | exact ⟨x0, x1, x2⟩
                | exact ⟨xa0, xa1, xa2⟩
                | exact ⟨xb0, xb1, xb2⟩
                | exact ⟨xc0, xc1, xc2⟩
                | exact ⟨xd0, xd1, xd2⟩
                | exact V.three 3 rfl
                | exact V.three 4 rfl
                | exact F9.three 4 rfl
                | exact F9.three 4 rfl
                | go_keep)
              (first
                | (refine step_append_lies _ (by rfl) _ _ _ (by rfl) W7.heap.size 3 i0 _ 1 8 Try.underlying22 HI.out HZ0.out HZ1.out HZ2.out rfl (by omega) _ _ _ (by rfl) oA ⟨bT, oT, none⟩ T.zs.length c1 (T.zs.map (Value.int .i64)) (by rfl) (by simp) (SA.news 3 rfl (Below.refl _ _)) (by intro u hu; obtain ⟨x, _, rfl⟩ := List.mem_map.1 hu; rfl) (by omega) (by unfold maxLen; omega) (by omega) (by simp <;> omega) _ rfl ?_; intro gg cap w4 hown4 hgrow4 hat4 hlt4; have hgb := (hown4.lt gg rfl).1; have V := SA.copyRow (E := W7.heap.size) (by omega) (by simp only [List.mem_cons, List.not_mem_nil, or_false]; rintro i (rfl | rfl | rfl | rfl) <;> simp [It.box, It.own] <;> omega) hgrow4 hown4 hlt4; obtain ⟨x0, x1, x2, x3, x4, x5, xz⟩ := facts3 (V.cells 3 rfl); have F9 := V.alloc #[.int .i64 T.t, .int .i64 T.p, .slice (some ⟨gg, 0, none⟩) T.zs.length cap] 29)
                | (refine step_append_lies _ (by rfl) _ _ _ (by rfl) (W7.heap.size + 1) 3 i0 _ 1 8 Try.underlying22 HI.out HZ0.out HZ1.out HZ2.out rfl (by omega) _ _ _ (by rfl) oB ⟨bT, oT, none⟩ T.zs.length c1 (T.zs.map (Value.int .i64)) (by rfl) (by simp) (SB.news 4 rfl (Below.refl _ _)) (by intro u hu; obtain ⟨x, _, rfl⟩ := List.mem_map.1 hu; rfl) (by omega) (by unfold maxLen; omega) (by omega) (by simp <;> omega) _ rfl ?_; intro gg cap w4 hown4 hgrow4 hat4 hlt4; have hgb := (hown4.lt gg rfl).1; have V := SB.copyRow (E := W7.heap.size + 1) (by omega) (by simp only [List.mem_cons, List.not_mem_nil, or_false]; rintro i (rfl | rfl | rfl | rfl | rfl) <;> simp [It.box, It.own] <;> omega) hgrow4 hown4 hlt4; obtain ⟨x0, x1, x2, x3, x4, x5, xz⟩ := facts3 (V.cells 4 rfl); obtain ⟨u0, u1, u2, u3, u4, u5, uz⟩ := facts3 (V.cells 1 rfl); have F9 := V.set3Box 1 rfl (by simp [Far, It.box, It.own]; omega) (by omega) (.int .i64 T.t) (.int .i64 T.p) (.slice (some ⟨gg, 0, none⟩) T.zs.length cap))
                | (refine step_append_lies _ (by rfl) _ _ _ (by rfl) W7.heap.size 3 i0 _ 1 8 Try.underlying22 HI.out HZ0.out HZ1.out HZ2.out rfl (by omega) _ _ _ (by rfl) oC ⟨bT, oT, none⟩ T.zs.length c1 (T.zs.map (Value.int .i64)) (by rfl) (by simp) (SC.news 4 rfl (Below.refl _ _)) (by intro u hu; obtain ⟨x, _, rfl⟩ := List.mem_map.1 hu; rfl) (by omega) (by unfold maxLen; omega) (by omega) (by simp <;> omega) _ rfl ?_; intro gg cap w4 hown4 hgrow4 hat4 hlt4; have hgc := (hown4.lt gg rfl).1; have hgb : gg ≠ W7.heap.size + 1 := (by rcases hat4 with h | h <;> simp [Value.ownBlock] at h <;> omega); have V := SC.copyRow (E := W7.heap.size) (by omega) (by simp only [List.mem_cons, List.not_mem_nil, or_false]; rintro i (rfl | rfl | rfl | rfl | rfl) <;> simp [It.box, It.own] <;> omega) hgrow4 hown4 hlt4; obtain ⟨x0, x1, x2, x3, x4, x5, xz⟩ := facts3 (V.cells 4 rfl); obtain ⟨u0, u1, u2, u3, u4, u5, uz⟩ := facts3 (V.cells 1 rfl); have F9 := V.set3Box 1 rfl (by simp [Far, It.box, It.own]; omega) (by omega) (.int .i64 T.t) (.int .i64 T.p) (.slice (some ⟨gg, 0, none⟩) T.zs.length cap)))
            all_goals clear xa0 xa1 xa2 xa3 xa4 xa5 xaz xb0 xb1 xb2 xb3 xb4 xb5 xbz xc0 xc1 xc2 xc3 xc4 xc5 xcz xd0 xd1 xd2 xd3 xd4 xd5 xdz SA SB SC oA oB oC hown4 hgrow4 S7
            all_goals have hgz := hlt4
            · obtain ⟨u0, u1, u2, u3, u4, u5, uz⟩ := facts3 (F9.cells 0 rfl)
              obtain ⟨g0, g1⟩ := own_at (F9.owns 1 rfl) hsl
              rw [Nat.zero_add] at g0 g1
              have F10 := (V.storeRow 0 ls hsl rfl (by simp [Far, It.box, It.own]; omega) (by omega) (-1)).alloc #[.int .i64 T.t, .int .i64 T.p, .slice (some ⟨gg, 0, none⟩) T.zs.length cap] 29
              clear F9 V x0 x1 x2 x3 x4 x5 xz
              go_wp2_with fail
              clear u0 u1 u2 u3 u4 u5 uz g0 g1
              refine (HPU.out _ _ _ (by exact F10.ints 1 rfl)).mono ?_
              rintro e w9 ⟨rfl, hb⟩
              have F11 := F10.below hb
              clear F10 hb
              go_wp2
              go_roundw
              case rel => exact ⟨j + 1, by omega, by go_num, F11.turn fun i hi => by
                simp only [List.mem_cons, List.not_mem_nil, or_false, List.set] at hi ⊢
                rcases hi with h | h | h
                · exact .inr (.inr (.inr (.inl h)))
                · exact .inr (.inr (.inr (.inr (.inl h))))
                · exact .inr (.inr (.inr (.inr (.inr h))))⟩
              case measure => simp [intOf]; omega
            · obtain ⟨u0, u1, u2, u3, u4, u5, uz⟩ := facts3 (F9.cells 1 rfl)
              obtain ⟨g0, g1⟩ := own_at (F9.owns 0 rfl) hsl
              rw [Nat.zero_add] at g0 g1
              have F10 := F9.storeRow 0 ls hsl rfl (by simp [Far, It.box, It.own]; omega) (by omega) (-1)
              clear F9 V x0 x1 x2 x3 x4 x5 xz
              go_wp2_with fail
              clear u0 u1 u2 u3 u4 u5 uz g0 g1
              refine (HPU.out _ _ _ (by exact F10.ints 0 rfl)).mono ?_
              rintro e w9 ⟨rfl, hb⟩
              have F11 := F10.below hb
              clear F10 hb
              go_wp2
              go_roundw
              case rel => exact ⟨j + 1, by omega, by go_num, F11.turn fun i hi => by
                simp only [List.mem_cons, List.not_mem_nil, or_false, List.set] at hi ⊢
                rcases hi with h | h | h
                · exact .inr (.inr (.inr (.inl h)))
                · exact .inr (.inr (.inr (.inr (.inl h))))
                · exact .inr (.inr (.inr (.inr (.inr h))))⟩
              case measure => simp [intOf]; omega
            · obtain ⟨u0, u1, u2, u3, u4, u5, uz⟩ := facts3 (F9.cells 1 rfl)
              obtain ⟨g0, g1⟩ := own_at (F9.owns 0 rfl) hsl
              rw [Nat.zero_add] at g0 g1
              have F10 := F9.storeRow 0 ls hsl rfl (by simp [Far, It.box, It.own]; omega) (by omega) (-1)
              clear F9 V x0 x1 x2 x3 x4 x5 xz
              go_wp2_with fail
              clear u0 u1 u2 u3 u4 u5 uz g0 g1
              refine (HPU.out _ _ _ (by exact F10.ints 0 rfl)).mono ?_
              rintro e w9 ⟨rfl, hb⟩
              have F11 := F10.below hb
              clear F10 hb
              go_wp2
              go_roundw
              case rel => exact ⟨j + 1, by omega, by go_num, F11.turn fun i hi => by
                simp only [List.mem_cons, List.not_mem_nil, or_false, List.set] at hi ⊢
                rcases hi with h | h | h
                · exact .inr (.inr (.inr (.inl h)))
                · exact .inr (.inr (.inr (.inr (.inl h))))
                · exact .inr (.inr (.inr (.inr (.inr h))))⟩
              case measure => simp [intOf]; omega
        · obtain rfl : j = m := by omega
          go_wp2
          go_ret
          exact ⟨rfl, Sr.old⟩
  · have t1 : decide (1048576 < (ys.length : Int)) = true := by simp; omega
    go_enter Try.func7, Try.ntmps7
    go_wp2_with fail
    go_ret
    exact ⟨rfl, S0.old⟩

end Go.Proofs.Ytpbffdjiijpigaa

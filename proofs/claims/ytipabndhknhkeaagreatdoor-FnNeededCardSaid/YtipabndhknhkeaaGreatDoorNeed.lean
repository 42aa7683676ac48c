/-
  The program's needed tombs: a loop over a ring's slots, in whose round a range over a function goes around the ring.
-/
import Derived.Test.YtipabndhknhkeaaGreatDoorWith
import Derived.Test.YtipabndhknhkeaaGreatDoorAround2
import Derived.Test.YtipabndhknhkeaaGreatDoorMath
import Derived.Test.YtipabndhknhkeaaGreatDoorLook
namespace Go.Proofs.YtipabndhknhkeaaGreatDoor
open Go.RowKit Go.Shelf
attribute [local go_sem] Oper.semAt_some

/-- What is known of memory behind k rounds: the set so far; the marks of the loops that are over. -/
def NeedRel (T : Tab) (w : World) (k : Nat) (ds : List Nat) (W : World) : Prop :=
  Below w.heap.size w W ∧ W.heap[w.heap.size]? = some (.cells #[.int .u16 (needTo T k)] 76 (0, 0)) ∧ ds.Nodup ∧ ∀ D, D ∈ ds → w.heap.size < D ∧ W.heap[D]? = some (.deferred (some []))
def NeedInv (T : Tab) (g : Nat) (w : World) (a : Act) (W : World) : Prop :=
  ∃ (k : Nat) (ds : List Nat) (u5 u6 u7 u10 u11 u12 u13 u14 u15 u16 u17 u18 u19 u20 u21 u22 u23 u24 u25 u26 u27 u28 u29 u30 u31 u32 u33 u34 u35 : Value), k ≤ T.zs.length ∧ u10 = .int .i64 k ∧ NeedRel T w k ds W ∧ a = { tmps := #[.slice (some ⟨g, 0, none⟩) T.zs.length T.zs.length, undef, .int .u16 0, .pointer (some ⟨w.heap.size, 0, none⟩), undef, u5, u6, u7, .slice (some ⟨g, 0, none⟩) T.zs.length T.zs.length, .int .i64 T.zs.length, u10, u11, u12, u13, u14, u15, u16, u17, u18, u19, u20, u21, u22, u23, u24, u25, u26, u27, u28, u29, u30, u31, u32, u33, u34, u35, undef], defers := ds.map fun D => { target := .collected D, args := #[] } }

theorem NeedRel.alloc {T : Tab} {w W : World} {k : Nat} {ds : List Nat} (h : NeedRel T w k ds W) (o : Obj) : NeedRel T w k ds (W.alloc o) :=
  ⟨h.1.alloc h.1.size o, (Below.heap_alloc W o _ (Array.getElem?_eq_some_iff.1 h.2.1).1).trans h.2.1, h.2.2.1, fun D hD => ⟨(h.2.2.2 D hD).1, (Below.heap_alloc W o _ (Array.getElem?_eq_some_iff.1 (h.2.2.2 D hD).2).1).trans (h.2.2.2 D hD).2⟩⟩

/-- Within a round: the set at B; all other blocks as they lay. -/
def NeedMid (B : Nat) (W4 : World) (m : Nat) (W : World) : Prop :=
  Below B W4 W ∧ (∀ b, B < b → b < W4.heap.size → W.heap[b]? = W4.heap[b]?) ∧ W.heap[B]? = some (.cells #[.int .u16 m] 76 (0, 0))
theorem NeedMid.grown {B : Nat} {W4 X Y : World} {m : Nat} {row : Option Nat} (h : NeedMid B W4 m X) (hB : B < W4.heap.size) (hg : X.grownBy Y row) (hr : ∀ r, row = some r → W4.heap.size ≤ r) : NeedMid B W4 m Y := by
  have hz := h.1.size
  have hne : ∀ b, b < W4.heap.size → some b ≠ row := fun b hb e => by have := hr b e.symm; omega
  exact ⟨h.1.trans (grownBy_below hg (by omega) (fun k e => by have := hr k e; omega)), fun b h1 h2 => (hg.block b (by omega) (hne b h2)).trans (h.2.1 b h1 h2), (hg.block B (by omega) (hne B hB)).trans h.2.2⟩
theorem NeedMid.own {β : Type} {B : Nat} {W4 : World} (f : β → Nat) (hB : B < W4.heap.size) : OwnFrom W4.heap.size (fun s W => NeedMid B W4 (f s) W) := fun _ _ _ _ hs hg hr => hs.grown hB hg fun r e => (hr r e).1
theorem NeedMid.alloc {B : Nat} {W4 X : World} {m : Nat} (h : NeedMid B W4 m X) (hB : B < W4.heap.size) (o : Obj) : NeedMid B W4 m (X.alloc o) := h.grown hB (World.grownBy_alloc X o none) (fun r e => by cases e)
theorem NeedMid.set {B : Nat} {W4 X : World} {m : Nat} (h : NeedMid B W4 m X) (v : Nat) : NeedMid B W4 v (X.setCell ⟨B, 0, none⟩ (.int .u16 v)) :=
  ⟨h.1.setCell (p := ⟨B, 0, none⟩) (Nat.le_refl _) _, fun b h1 h2 => (Below.heap_setCell X ⟨B, 0, none⟩ _ b (by simp only; omega)).trans (h.2.1 b h1 h2), setCell_at h.2.2 0 _⟩

set_option maxRecDepth 100000 in
set_option maxHeartbeats 4000000 in
theorem needed_any (T : Tab) (g : Nat) (w : World) (hv : validB T = true) (hR : RingAt w g T) (hg : g < w.heap.size) :
    Calls Tryz.prog 59 #[.slice (some ⟨g, 0, none⟩) T.zs.length T.zs.length] w fun e w' => e = .returned (.int .u16 (needTo T T.zs.length)) ∧ Below w.heap.size w w' := by
  obtain ⟨⟨l1, l2⟩, _⟩ := valid_facts hv
  have HV := Lib.hid hv
  have HR := Lib.hid hR
  clear hv hR
  refine (callsIn_wide (n := 9)).1 ?_
  refine callsIn_of_wp_marks Tryz.func59 rfl trivial ?_ rfl
  simp only [Tryz.ntmps59, List.size_toArray, List.length_cons, List.length_nil, Nat.reduceAdd, Nat.reduceSub, Array.replicate_succ, Array.replicate_zero, List.push_toArray, List.append_toArray, List.nil_append, List.cons_append]
  gi_wp2_with fail
  refine wpIn_loop (NeedInv T g w) (fun a _ => T.zs.length - (intOf (a.tmps.getD 10 undef)).toNat) ?start ?round
  case start =>
    exact ⟨0, [], _, _, _, _, _, _, _, _, _, _, _, _, _, _, _, _, _, _, _, _, _, _, _, _, _, _, _, _, _, Nat.zero_le _, rfl, ⟨(Below.refl _ _).alloc (Nat.le_refl _) _, heap_alloc_new w _, List.nodup_nil, fun D h => by cases h⟩, rfl⟩
  case round =>
    rintro a' wr ⟨k, ds, u5, u6, u7, u10, u11, u12, u13, u14, u15, u16, u17, u18, u19, u20, u21, u22, u23, u24, u25, u26, u27, u28, u29, u30, u31, u32, u33, u34, u35, hk, rfl, hrel, rfl⟩
    by_cases hlt : k < T.zs.length
    · have k0 : (0 : Int) ≤ (k : Int) := by omega
      have k1 : (k : Int) < (T.zs.length : Int) := by omega
      obtain ⟨r0, r1⟩ := (HR.out.below hrel.1 hg) k hlt
      have JA := Lib.hid fun o => hrel.alloc o
      have HX := Lib.hid (show needTo T (k + 1) = if inB (nth T.zs k) 0 99 then needIn T (homeN T (nth T.zs k)) (needTo T k) (List.range (awayN T k)) else needTo T k from rfl)
      obtain ⟨x, hX⟩ : ∃ x, nth T.zs k = x := ⟨_, rfl⟩
      rw [hX] at r0 r1 HX
      cases hb : inB x 0 99
      · have HB := Lib.hid hb
        have HE : Hid (needTo T (k + 1) = needTo T k) := Lib.hid (by rw [HX.out, hb]; rfl)
        clear hb hrel
        gi_wp2_with (refine ⟨trivial, ?_⟩; gi_at_call 89; refine (callsIn_wide.2 (heldIsKey_any _ _)).mono ?_; rintro e w' ⟨rfl, rfl⟩; rw [HB.out])
        have J := JA.out (.cells #[.int .i64 x, .int .i64 (homeT T x)] 70)
        exact ⟨⟨k + 1, ds, _, _, _, _, _, _, _, _, _, _, _, _, _, _, _, _, _, _, _, _, _, _, _, _, _, _, _, _, _, by omega, by go_num, ⟨J.1, by rw [HE.out]; exact J.2.1, J.2.2⟩, rfl⟩, by simp [intOf]; omega⟩
      · have HB := Lib.hid hb
        have hx0 := (inB_iff.1 hb).1
        obtain ⟨h, hHH⟩ : ∃ h, homeN T x = h := ⟨_, rfl⟩
        have hhl : h < T.zs.length := by rw [← hHH]; exact homeN_lt HV.out x
        have hht : homeT T x = (h : Int) := by rw [homeT_key HV.out hx0, ← hHH]; exact (homeN_eq HV.out x).symm
        have HH := Lib.hid hHH
        have hXX := Lib.hid hX
        rw [hht] at r1
        clear hb hHH hht hX
        gi_wp2_with (first | (refine ⟨trivial, ?_⟩; gi_at_call 89; refine (callsIn_wide.2 (heldIsKey_any _ _)).mono ?_; rintro e w' ⟨rfl, rfl⟩; rw [HB.out]) | (refine ⟨trivial, ?_⟩; gi_at_call 90; refine (callsIn_wide.2 (ringAround_any _ _ _ _ _)).mono ?_; rintro e w' ⟨rfl, rfl⟩))
        have hz2 : w.heap.size < wr.heap.size := (Array.getElem?_eq_some_iff.1 hrel.2.1).1
        have Sx := (((St.start wr).alloc #[.int .i64 x, .int .i64 h] 70).alloc #[.slice (some ⟨g, 0, none⟩) T.zs.length T.zs.length] 66).alloc #[.int .i64 h] 3
        have J4 := ((hrel.alloc (.cells #[.int .i64 x, .int .i64 h] 70)).alloc (.cells #[.slice (some ⟨g, 0, none⟩) T.zs.length T.zs.length] 66)).alloc (.cells #[.int .i64 h] 3)
        have z4 : (((wr.alloc (.cells #[.int .i64 x, .int .i64 h] 70)).alloc (.cells #[.slice (some ⟨g, 0, none⟩) T.zs.length T.zs.length] 66)).alloc (.cells #[.int .i64 h] 3)).heap.size = wr.heap.size + 3 := by simp
        simp only [World.size_alloc] at Sx
        generalize ((wr.alloc (.cells #[.int .i64 x, .int .i64 h] 70)).alloc (.cells #[.slice (some ⟨g, 0, none⟩) T.zs.length T.zs.length] 66)).alloc (.cells #[.int .i64 h] 3) = W4 at Sx J4 z4 ⊢
        have hB1 := (facts1 (Sx.cells 1 rfl)).1
        have hB2 := (facts1 (Sx.cells 0 rfl)).1
        have hC := Sx.cells 2 rfl
        have R4 := HR.out.below J4.1 hg
        have hzB : w.heap.size < W4.heap.size := by omega
        have hgw := hg
        refine wpIn_rangeFunc_ownH (n := 9) rfl (by omega) (gf := 112) (lb := #[.pointer (some ⟨wr.heap.size + 1, 0, none⟩), .pointer (some ⟨wr.heap.size + 1 + 1, 0, none⟩)]) rfl trivial (enters_of Tryz.func112 (by kernel_rfl) rfl)
          (ringAroundS_stops 8 (by omega) (fun b => b = g ∨ b = wr.heap.size + 1 ∨ b = wr.heap.size + 1 + 1) (wr.heap.size + 1) (wr.heap.size + 1 + 1) g h T l1 l2 hhl W4 hB1 hB2 R4 (.inr (.inl rfl)) (.inr (.inr rfl)) (.inl rfl) (by omega) (by omega) (by omega)) KeepS.trans (fun W l o o' hl _ _ _ => keepS_put (by rintro (e | e | e) <;> omega)) (Below.refl _ _) (fun _ => rfl)
          (fun pre W => NeedMid w.heap.size W4 (needIn T h (needTo T k) pre) W ∧ ∀ j, j ∈ pre → nth T.zs (stepS T h j) ≠ x)
          (fun c pre W => ∃ pre' x', c = .exit 2 ∧ pre = pre' ++ [x'] ∧ nth T.zs (stepS T h x') = x ∧ NeedMid w.heap.size W4 (needIn T h (needTo T k) pre') W)
          (fun s X Y row hs hg' hr => ⟨NeedMid.own (fun pre => needIn T h (needTo T k) pre) hzB s X Y row hs.1 hg' hr, hs.2⟩)
          (fun c s X Y row hs hg' hr => by
            obtain ⟨pre', x', e1, e2, e3, e4⟩ := hs
            exact ⟨pre', x', e1, e2, e3, e4.grown hzB hg' fun r e => (hr r e).1⟩)
          ⟨⟨Below.refl _ _, fun _ _ _ => rfl, J4.2.1⟩, fun j hj => by cases hj⟩
          (fun y a' W => ∃ Bx, W4.heap.size ≤ Bx ∧ W.heap[Bx]? = some (.cells #[.int .i64 (nth T.zs (stepS T h y)), .int .i64 (homeT T (nth T.zs (stepS T h y)))] 70 (0, 0)) ∧
            a' = { tmps := #[.slice (some ⟨g, 0, none⟩) T.zs.length T.zs.length, undef, .int .u16 0, .pointer (some ⟨w.heap.size, 0, none⟩), undef, .pointer (some ⟨wr.heap.size, 0, none⟩), .int .i64 (stepS T h y), .pointer (some ⟨Bx, 0, none⟩), .slice (some ⟨g, 0, none⟩) T.zs.length T.zs.length, .int .i64 T.zs.length, .int .i64 k, .bool true, .pointer (some ⟨g, k * 2, none⟩), .agg #[.int .i64 x, .int .i64 h], .pointer (some ⟨wr.heap.size, 0, none⟩), .int .i64 x, .bool true, .bool false, .slice (some ⟨g, 0, none⟩) T.zs.length T.zs.length, .pointer (some ⟨wr.heap.size, 1, none⟩), .int .i64 h, .func (.func 112) #[] #[.pointer (some ⟨wr.heap.size + 1, 0, none⟩), .pointer (some ⟨wr.heap.size + 1 + 1, 0, none⟩)], .int .i64 (stepS T h y), .agg #[.int .i64 (nth T.zs (stepS T h y)), .int .i64 (homeT T (nth T.zs (stepS T h y)))], u24, u25, u26, u27, u28, u29, u30, u31, u32, u33, u34, u35, undef], defers := [] })
          (fun x a' => block_own (P := fun _ Bx => W4.heap.size ≤ Bx)) ?assign ?body ?done ?stop
        case assign =>
          rintro l pre y W K ⟨hi, hf⟩ hK
          have hz := hi.1.size
          gi_wp2
          exact hK _ _ ((KeepsOthers.alloc _ _).from _) ((KeepS.refl _ W).below (m := W4.heap.size) (by rintro b (e | e | e) <;> omega) hz ((Below.refl _ _).alloc (Nat.le_refl _) _)) ⟨hi.alloc hzB _, hf⟩ ⟨W.heap.size, hz, heap_alloc_new W _, rfl⟩
        case body =>
          rintro l pre y a' W hl hrec ⟨hi, hf⟩ ⟨Bx, hBx, bX, rfl⟩ hlt'
          have hkl := stepS_lt l1 h y
          have hml := needIn_lt (T := T) (h := h) l1 l2 (needTo_lt l1 l2 k) pre
          have HN := Lib.hid (needIn_snoc T h (needTo T k) pre y)
          have HST : Hid (∀ m, needStep T h m y = if nth T.zs (stepS T h y) == -2 then m ||| 2 ^ stepS T h y else m) := Lib.hid fun _ => rfl
          have hz := hi.1.size
          have hC' := (hi.2.1 wr.heap.size hz2 (by omega)).trans hC
          obtain ⟨t0, t1, t2, t3, tz⟩ := facts2 bX
          obtain ⟨c0, c1, c2, c3, cz⟩ := facts2 hC'
          obtain ⟨v0, v1, vz⟩ := facts1 hi.2.2
          have HI := Lib.hid hi
          generalize hkk : stepS T h y = kk at *
          generalize hyy : nth T.zs kk = z at *
          have HKK := Lib.hid hkk
          have HYY := Lib.hid hyy
          clear hkk hyy hi
          by_cases hzx : z = x
          · have d : (z == x) = true := by simpa using hzx
            gi_wp2_with fail
            exact ⟨KeepsFrom.refl _ _, pre, y, rfl, rfl, by rw [HKK.out, HYY.out]; exact hzx, HI.out⟩
          · have d : (z == x) = false := by simpa using hzx
            have HF : Hid (∀ j, j ∈ pre ++ [y] → nth T.zs (stepS T h j) ≠ x) := Lib.hid fun j hj => by
              rcases List.mem_append.1 hj with h1 | h1
              · exact hf j h1
              · obtain rfl := List.mem_singleton.1 h1
                rw [HKK.out, HYY.out]; exact hzx
            by_cases ht : z = -2
            · have d2 : (z == -2) = true := by simpa using ht
              have HM : Hid (needIn T h (needTo T k) (pre ++ [y]) = needIn T h (needTo T k) pre ||| 2 ^ kk) := Lib.hid (by rw [HN.out, HST.out, d2]; rfl)
              have K2 := Lib.hid fun v => (KeepsOthers.setCell W ⟨w.heap.size, 0, none⟩ v).from W4.heap.size
              have G2 := Lib.hid fun v => (KeepS.refl (fun b => b = g ∨ b = wr.heap.size + 1 ∨ b = wr.heap.size + 1 + 1) W).set (p := ⟨w.heap.size, 0, none⟩) (by rintro (e | e | e) <;> simp only at e <;> omega) v
              generalize needIn T h (needTo T k) pre = m at hml v0 HI HM
              gi_wp2_with (refine ⟨trivial, ?_⟩; gi_at_call 91; refine (CallsIn.inRound l (callsIn_wide.2 (with_any _ _ hml (by omega) _))).mono ?_; rintro e w' ⟨rfl, rfl⟩)
              exact ⟨K2.out _, G2.out _, by rw [HM.out]; exact HI.out.set _, HF.out⟩
            · have d2 : (z == -2) = false := by simpa using ht
              have HM : Hid (needIn T h (needTo T k) (pre ++ [y]) = needIn T h (needTo T k) pre) := Lib.hid (by rw [HN.out, HST.out, d2]; rfl)
              gi_wp2_with fail
              exact ⟨KeepsFrom.refl _ _, KeepS.refl _ _, by rw [HM.out]; exact HI.out, HF.out⟩
        case done =>
          rintro D ys W hD rfl ⟨hi, hf⟩ hK
          refine (need_done HV.out hlt fun j hj => ?_).elim
          rw [hXX.out, HH.out]
          exact hf j hj
        case stop =>
          rintro D c pre W hD ⟨n', hn', he⟩ ⟨pre', x', rfl, rfl, hs, hi⟩ hK
          have hpe : pre' = List.range (awayN T k) := need_end HV.out hlt (by rw [hXX.out]; exact hx0) hn' he (by rw [hXX.out, HH.out]; exact hs)
          have HE : Hid (needTo T (k + 1) = needIn T h (needTo T k) pre') := Lib.hid (by rw [HX.out, HB.out, HH.out, hpe]; rfl)
          have hDW : W4.heap.size ≤ D := hD
          have HREL : Hid (NeedRel T w (k + 1) (D :: ds) W) := Lib.hid (by
            have hlt4 : ∀ D', D' ∈ ds → D' < W4.heap.size := fun D' h' => (Array.getElem?_eq_some_iff.1 (J4.2.2.2 D' h').2).1
            refine ⟨J4.1.trans hi.1, by rw [HE.out]; exact hi.2.2, List.nodup_cons.2 ⟨fun h' => by have := hlt4 D h'; omega, J4.2.2.1⟩, fun D' h' => ?_⟩
            rcases List.mem_cons.1 h' with rfl | h'
            · exact ⟨by omega, hK⟩
            · exact ⟨(J4.2.2.2 D' h').1, (hi.2.1 D' (J4.2.2.2 D' h').1 (hlt4 D' h')).trans (J4.2.2.2 D' h').2⟩)
          clear hi hK J4 Sx
          gi_wp2_with fail
          exact ⟨⟨k + 1, D :: ds, _, _, _, _, _, _, _, _, _, _, _, _, _, _, _, _, _, _, _, _, _, _, _, _, _, _, _, _, _, by omega, by go_num, HREL.out, rfl⟩, by simp [intOf]; omega⟩
    · obtain rfl : k = T.zs.length := by omega
      obtain ⟨b0, b1, b2⟩ := facts1 hrel.2.1
      gi_wp2_with fail
      have HREL := hrel
      refine leaves_marks (J := fun W => Below w.heap.size w W) (fun W hJ => ?_) ds wr hrel.2.2.1 (fun D hD => (hrel.2.2.2 D hD).2) (fun D W hD hJ h0 => ?_) hrel.1
      · exact ⟨_, by simp [results, Tryz.f59, Tryz.results59, go_sem], rfl, hJ⟩
      · have := (hrel.2.2.2 D hD).1
        exact hJ.trans (belowK_b (w := w) (Nat.le_refl _) W D _ (.deferred none) (by omega) h0 rfl rfl)

end Go.Proofs.YtipabndhknhkeaaGreatDoor

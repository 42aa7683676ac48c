/-
  The iterator that shifts keys into a hole, in the table's own slots.
-/
import Derived.Test.YtalehninmdcoeaaGreatDoorLow
import Derived.Test.YtalehninmdcoeaaGreatDoorAway
import Derived.Test.YtalehninmdcoeaaGreatDoorMath
namespace Go.Proofs.YtalehninmdcoeaaGreatDoor
open Go.RowKit Go.Shelf
attribute [local go_sem] Oper.semAt_some

theorem rowOwn_block {w w' : World} {g : Nat} {zs : List Int} (h : OwnInts w g (some ⟨g, 0, none⟩) zs) (hb : w'.heap[g]? = w.heap[g]?) (hz : w.heap.size ≤ w'.heap.size) : OwnInts w' g (some ⟨g, 0, none⟩) zs := by
  refine ⟨fun p hp => ⟨(h.1 p hp).1, Nat.lt_of_lt_of_le (h.1 p hp).2 hz⟩, fun h0 => ?_⟩
  obtain ⟨b, off, e, hc, hf⟩ := h.2 h0
  cases e
  exact ⟨g, 0, rfl, fun j hj => (World.cell?_of_block (a := ⟨g, 0 + j, none⟩) hb).trans (hc j hj), fun j hj => (World.frozen?_of_block (a := ⟨g, 0 + j, none⟩) hb).trans (hf j hj)⟩
theorem rowOwn_at {w : World} {g : Nat} {zs : List Int} (h : OwnInts w g (some ⟨g, 0, none⟩) zs) {i : Nat} (hi : i < zs.length) : w.cell? ⟨g, i, none⟩ = some (.int .i64 (nth zs i)) ∧ w.frozen? ⟨g, i, none⟩ = false := by
  obtain ⟨b, off, e, hc, hf⟩ := h.2 (by omega)
  cases e
  have := hc i hi
  have h2 := hf i hi
  rw [Nat.zero_add] at this h2
  exact ⟨this, h2⟩
/-- The row that lies in a block. -/
def readInts (w : World) (g n : Nat) : List Int := (List.range n).map fun i => intOf ((w.cell? ⟨g, i, none⟩).getD undef)
theorem read_own {w : World} {g n : Nat} {zs : List Int} (h : OwnInts w g (some ⟨g, 0, none⟩) zs) (hn : zs.length = n) : readInts w g n = zs := by
  subst hn
  refine nth_ext (by simp [readInts]) fun i hi => ?_
  have hi : i < zs.length := by simpa [readInts] using hi
  have : (readInts w g zs.length)[i]? = some (intOf ((w.cell? ⟨g, i, none⟩).getD undef)) := by
    unfold readInts
    rw [List.getElem?_map, List.getElem?_range hi]; rfl
  rw [nth, this, (rowOwn_at h hi).1]
  rfl
theorem keep_rest {A B C : World} {g b : Nat} {v : Value} (h : ∀ k, k < B.heap.size → k ≠ g → C.heap[k]? = B.heap[k]?) (hne : b ≠ g) (hc : B.cell? ⟨b, 0, none⟩ = some v) : C.cell? ⟨b, 0, none⟩ = some v :=
  (World.cell?_of_block (a := ⟨b, 0, none⟩) (h b (World.block_lt_of_cell? B _ hc) hne)).trans hc

/-- Below B all lies as it lay, but the block g. -/
def KeepBut (B g : Nat) (A A' : World) : Prop := A.heap.size ≤ A'.heap.size ∧ ∀ k, k < B → k ≠ g → A'.heap[k]? = A.heap[k]?
theorem KeepBut.refl (B g : Nat) (A : World) : KeepBut B g A A := ⟨Nat.le_refl _, fun _ _ _ => rfl⟩
theorem KeepBut.below {B g : Nat} {A A' A'' : World} (h : KeepBut B g A A') (hb : Below B A' A'') : KeepBut B g A A'' := ⟨Nat.le_trans h.1 hb.size, fun k h1 h2 => (hb.block k h1).trans (h.2 k h1 h2)⟩
theorem KeepBut.set {B g : Nat} {A A' : World} (h : KeepBut B g A A') (o : Nat) (v : Value) : KeepBut B g A (A'.setCell ⟨g, o, none⟩ v) := ⟨by simpa [World.setCell] using h.1, fun k h1 h2 => (Below.heap_setCell A' ⟨g, o, none⟩ v k h2).trans (h.2 k h1 h2)⟩
theorem KeepBut.cell {B g : Nat} {A A' : World} (h : KeepBut B g A A') {b o : Nat} {v : Value} (hb : b < B) (hne : b ≠ g) (hc : A.cell? ⟨b, o, none⟩ = some v) : A'.cell? ⟨b, o, none⟩ = some v :=
  (World.cell?_of_block (a := ⟨b, o, none⟩) (h.2 b hb hne)).trans hc

theorem fwd_next {n h d : Nat} (hh : h < n) (h1 : 1 ≤ d) (h2 : d ≤ n) : ((fwd n h (d - 1) : Nat) + 1 : Int).tmod n = (fwd n h d : Nat) := by
  rw [Int.tmod_eq_emod_of_nonneg (by omega)]
  have : ((fwd n h (d - 1) : Nat) + 1 : Int) % n = ((fwd n h (d - 1) + 1) % n : Nat) := by simp
  rw [this]
  have h3 := fwd_lt hh (m := d - 1) (by omega)
  rcases fwd_cases n h (d - 1) with ⟨c1, e1⟩ | ⟨c1, e1⟩ <;> rcases fwd_cases n h d with ⟨c2, e2⟩ | ⟨c2, e2⟩
  · rw [Nat.mod_eq_of_lt (by omega)]; omega
  · rw [show fwd n h (d - 1) + 1 = n by omega, Nat.mod_self]; omega
  · omega
  · rw [Nat.mod_eq_of_lt (by omega)]; omega
theorem shift_len (T : Tab) : ∀ (f : Nat) (zs : List Int) (hole d : Nat), Hole T zs hole d → (shiftF T f zs hole d).1.length ≤ sumN (awZ T zs) T.zs.length := by
  intro f
  induction f with
  | zero => intro zs hole d _; simp [shiftF]
  | succ f ih =>
    intro zs hole d hH
    simp only [shiftF]
    split
    · simp
    · rename_i hx
      split
      · exact ih _ _ _ (hH.pass hx)
      · rename_i ha
        have h1 := ih _ _ _ (hH.move hx)
        have h2 := meas_move hH hx ha
        have hd := hH.d1
        have hd2 := (hH.full hx).1
        have l2 : zs.length ≤ 16 := (valid_facts hH.val).1.2
        rw [hH.len] at l2
        unfold meas at h2
        unfold moved at h1 h2
        simp only [List.length_cons]
        omega
theorem sum_le {f : Nat → Nat} {n b : Nat} (h : ∀ i, i < n → f i ≤ b) : sumN f n ≤ b * n := by
  induction n with
  | zero => simp [sumN]
  | succ n ih =>
    simp only [sumN]
    have := ih fun i hi => h i (by omega)
    have := h n (by omega)
    rw [Nat.mul_add]; omega
theorem shiftR_len {T : Tab} {zs : List Int} {hole d : Nat} (h : Hole T zs hole d) : (shiftR T zs hole d).1.length ≤ 256 := by
  have h1 := shift_len T (meas T zs d + 1) zs hole d h
  have l2 : zs.length ≤ 16 := (valid_facts h.val).1.2
  rw [h.len] at l2
  have h2 := sum_le (f := awZ T zs) (n := T.zs.length) (b := 16) fun i hi => by
    unfold awZ
    split
    · have := dst_lt (h.home (nth zs i)) hi
      unfold awN; omega
    · omega
  unfold shiftR
  omega

set_option maxRecDepth 100000 in
set_option maxHeartbeats 2000000 in
theorem shifts1_in (n : Nat) (_hn : 1 ≤ n) (l B1 B2 g B k c : Nat) (T : Tab) (hk : k < T.zs.length) (hH : Hole T (T.zs.set k (-1)) k 1) (J : List Int → World → Prop) (W : World)
    (hJ1 : ∀ s A o v, J s A → J s (A.setCell ⟨g, o, none⟩ v)) (hJ2 : ∀ s A A', J s A → Below A.heap.size A A' → J s A')
    (hY : ∀ pre x W1, J pre W1 → pre.length < 256 → YieldAt Fence.wide (n - 1) Tryz.prog l #[.int .i64 x] W1 fun e W' => e = .returned (.bool true) ∧ J (pre ++ [x]) W' ∧ Below B W1 W')
    (hB1 : W.cell? ⟨B1, 0, none⟩ = some (.int .i64 k)) (hB2 : W.cell? ⟨B2, 0, none⟩ = some (.int .i64 T.t)) (hB3 : W.cell? ⟨B2, 1, none⟩ = some (.int .i64 T.p)) (hB4 : W.cell? ⟨B2, 2, none⟩ = some (.slice (some ⟨g, 0, none⟩) T.zs.length c))
    (hO : OwnInts W g (some ⟨g, 0, none⟩) T.zs) (b1 : B1 < B) (b2 : B2 < B) (hg : g < B) (n1 : B1 ≠ g) (n2 : B2 ≠ g) (hB : B ≤ W.heap.size) (h0 : J [] W) :
    CallsIn Fence.wide n Tryz.prog 146 #[.func (.yield l) #[] #[], .pointer (some ⟨B1, 0, none⟩), .pointer (some ⟨B2, 0, none⟩)] W fun e W' => (∃ v, e = .returned v) ∧
      ∃ xs, xs.length ≤ 256 ∧ (xs = (shiftZ T T.zs k).1 ∧ OwnInts W' g (some ⟨g, 0, none⟩) (shiftZ T T.zs k).2) ∧ J xs W' := by
  have hl0 := rowOwn_at hO hk
  obtain ⟨q0, f0⟩ := hl0
  have k0 : (0 : Int) ≤ (k : Int) := by omega
  have k1 : (k : Int) < (T.zs.length : Int) := by omega
  have HL := Lib.hid (shiftR_len hH)
  have HO1 : OwnInts (W.drew.setCell ⟨g, k, none⟩ (.int .i64 (-1))) g (some ⟨g, 0, none⟩) (T.zs.set k (-1)) := by
    have := (hO.below ((Below.refl _ W).drew)).set k hk (-1); rwa [Nat.zero_add] at this
  have HOH := Lib.hid HO1
  have HHH := Lib.hid hH
  have HJ0 := Lib.hid (hJ1 _ _ k (.int .i64 (-1)) (hJ2 _ _ _ h0 ((Below.refl _ W).drew)))
  clear HO1 hH hO h0
  refine callsIn_of_wp Tryz.func146 rfl trivial ?_ rfl
  simp only [Tryz.ntmps146, List.size_toArray, List.length_cons, List.length_nil, Nat.reduceAdd, Nat.reduceSub, Array.replicate_succ, Array.replicate_zero, List.push_toArray, List.append_toArray, List.nil_append, List.cons_append]
  gi_wp2_with fail
  gi_region
  gi_wp2
  gi_loopw [4, 5, 6] (fun s hp b wr => ∃ (zs : List Int) (hole d : Nat) (pre : List Int), Hid (Hole T zs hole d) ∧ s = .int .i64 (fwd T.zs.length hole (d - 1)) ∧ hp = .pointer (some ⟨g, hole, none⟩) ∧ b = .int .i64 d ∧
      Hid (pre ++ (shiftR T zs hole d).1 = (shiftZ T T.zs k).1 ∧ (shiftR T zs hole d).2 = (shiftZ T T.zs k).2) ∧ J pre wr ∧ Hid (OwnInts wr g (some ⟨g, 0, none⟩) zs) ∧ Hid (KeepBut B g W wr))
    (fun _ _ b wr => meas T (readInts wr g T.zs.length) (intOf b).toNat)
  case atStart => exact ⟨T.zs.set k (-1), k, 1, [], HHH, by simp [fwd, hk], rfl, rfl, Lib.hid ⟨rfl, rfl⟩, HJ0.out, HOH, Lib.hid (((KeepBut.refl B g W).below ((Below.refl _ _).drew)).set _ _)⟩
  case round =>
    obtain ⟨zs, hole, d, pre, HH, rfl, rfl, rfl, HP, hJs, HZ, HK⟩ := hrel
    clear HOH HHH HJ0 q0 f0 k0 k1
    have hl := HH.out.lt
    have hd1 := HH.out.d1
    have hd2 := HH.out.d2
    have hn0 : 1 ≤ T.zs.length := by omega
    have hk' := HH.out.klt
    have hp' : fwd T.zs.length hole (d - 1) < T.zs.length := fwd_lt hl (by omega)
    have hnx := fwd_next hl hd1 hd2
    obtain ⟨q, f⟩ := rowOwn_at HZ.out (i := fwd T.zs.length hole d) (by rw [HH.out.len]; exact hk')
    obtain ⟨qh, fh⟩ := rowOwn_at HZ.out (i := hole) (by rw [HH.out.len]; exact hl)
    have c1 := HK.out.cell b2 n2 hB2
    have c2 := HK.out.cell b2 n2 hB3
    have c3 := HK.out.cell b2 n2 hB4
    have HF := Lib.hid (show nth zs (fwd T.zs.length hole d) ≠ -1 → _ from HH.out.full)
    obtain ⟨k', hke⟩ : ∃ k', fwd T.zs.length hole d = k' := ⟨_, rfl⟩
    have HKE := Lib.hid hke
    rw [hke] at hk' hnx q f HF
    generalize fwd T.zs.length hole (d - 1) = p' at hp' hnx ⊢
    clear hke
    obtain ⟨x, hx⟩ : ∃ x, nth zs k' = x := ⟨_, rfl⟩
    have HX := Lib.hid hx
    rw [hx] at q HF
    clear hx
    have hn1 : ((T.zs.length : Int) == 0) = false := beq_eq_false_iff_ne.2 (by omega)
    have i0 : (0 : Int) ≤ (k' : Int) := by omega
    have i1 : (k' : Int) < (T.zs.length : Int) := by omega
    have hT : Hid True := trivial
    have l16 : T.zs.length ≤ 16 := by have := (valid_facts HH.out.val).1.2; rw [← HH.out.len]; exact this
    have hwd := Lib.hid (show wrap64 ((d : Int) + 1) = ((d + 1 : Nat) : Int) by rw [IntWalk.wrap64_in _ (by omega)]; omega)
    clear l16
    have hw : wrap64 ((p' : Int) + 1) = (p' : Int) + 1 := by
      have : T.zs.length ≤ 16 := by have := (valid_facts HH.out.val).1.2; rw [← HH.out.len]; exact this
      exact IntWalk.wrap64_in _ (by omega)
    rw [← hw] at hnx
    clear hw
    replace hnx : Hid True → (wrap64 ((p' : Int) + 1)).tmod (T.zs.length : Int) = (k' : Int) := fun _ => hnx
    by_cases hx1 : x = -1
    · subst hx1
      have HE := Lib.hid (shift_stop (T := T) (zs := zs) (hole := hole) (d := d) (by rw [HKE.out]; exact HX.out))
      gi_wp2
      refine bodyPost_ret (results_none rfl _ _ _) rfl ?_
      have hE := HE.out
      obtain ⟨hP1, hP2⟩ := HP.out
      rw [hE] at hP1 hP2
      simp only [List.append_nil] at hP1
      refine ⟨⟨_, rfl⟩, pre, ?_, ⟨hP1, by rw [← hP2]; exact HZ.out⟩, hJs⟩
      rw [hP1]; exact HL.out
    · have hxb : (x == -1) = false := beq_eq_false_iff_ne.2 hx1
      have hXF : nth zs (fwd T.zs.length hole d) ≠ -1 := by rw [HKE.out, HX.out]; exact hx1
      obtain ⟨f1, f2, f3, f4⟩ := HH.out.full hXF
      have HA : Hid (Calls Tryz.prog 37 #[.agg #[.int .i64 T.t, .int .i64 T.p, .slice (some ⟨g, 0, none⟩) T.zs.length c], .int .i64 k'] wr fun e w' => e = .returned (.int .i64 (awN T zs k' : Nat)) ∧ Below wr.heap.size wr w') := Lib.hid (by
        have h := AwayOf_any (tab T zs) (some ⟨g, 0, none⟩) c (k' : Int) wr (by show zs.length ≤ _; have := (valid_facts HH.out.val).1.2; have : zs.length ≤ 16 := this; omega) HZ.out.ints
        have e : awayOf (tab T zs) (k' : Int) = awN T zs k' := by
          rw [← HKE.out]
          exact awN_of HH.out.val HH.out.len HH.out.klt f3
        rw [e] at h
        have e2 : tabV (tab T zs) (some ⟨g, 0, none⟩) c = .agg #[.int .i64 T.t, .int .i64 T.p, .slice (some ⟨g, 0, none⟩) T.zs.length c] := by
          show Value.agg #[_, _, .slice _ zs.length c] = _
          rw [HH.out.len]; rfl
        rw [e2] at h
        exact h)
      obtain ⟨aw, haw⟩ : ∃ aw, awN T zs k' = aw := ⟨_, rfl⟩
      rw [haw] at HA
      have HAW := Lib.hid haw
      clear haw hXF
      by_cases ha : aw < d
      · have t1 : decide ((aw : Int) < (d : Int)) = true := by simp; omega
        have HE := Lib.hid (shift_pass (T := T) (zs := zs) (hole := hole) (d := d) HH.out (by rw [HKE.out, HX.out]; exact hx1) (by rw [HKE.out, HAW.out]; exact ha))
        have HM := Lib.hid (meas_pass HH.out (by rw [HKE.out, HX.out]; exact hx1))
        have HN := Lib.hid (HH.out.pass (by rw [HKE.out, HX.out]; exact hx1))
        gi_wp2_with (refine ⟨trivial, ?_⟩; gi_at_call 37; refine (callsIn_wide.2 HA.out).mono ?_; rintro e w5 ⟨rfl, hb⟩)
        have O5 := Lib.hid (rowOwn_block HZ.out (hb.block _ (HZ.out.1 _ rfl).2) hb.size)
        have J5 := hJ2 _ _ _ hJs hb
        have K5 := Lib.hid (HK.out.below (hb.mono (show B ≤ wr.heap.size from Nat.le_trans hB HK.out.1)))
        go_roundw
        case rel =>
          refine ⟨zs, hole, d + 1, pre, HN, ?_, rfl, by rw [hwd.out], Lib.hid (by rw [← HE.out]; exact HP.out), J5, O5, K5⟩
          rw [show d + 1 - 1 = d by omega, HKE.out]
        case measure =>
          rw [read_own O5.out HH.out.len, read_own HZ.out HH.out.len]
          rw [hwd.out]
          exact HM.out
      · have t1 : decide ((aw : Int) < (d : Int)) = false := by simp; omega
        have HE := Lib.hid (shift_move (T := T) (zs := zs) (hole := hole) (d := d) HH.out (by rw [HKE.out, HX.out]; exact hx1) (by rw [HKE.out, HAW.out]; exact ha))
        have HM := Lib.hid (meas_move HH.out (by rw [HKE.out, HX.out]; exact hx1) (by rw [HKE.out, HAW.out]; exact ha))
        have HN := Lib.hid (HH.out.move (by rw [HKE.out, HX.out]; exact hx1))
        have hmv : Hid (moved T zs hole d = (zs.set hole x).set k' (-1)) := Lib.hid (by unfold moved; rw [HKE.out, HX.out])
        have hpl : pre.length < 256 := by
          have h1 := HP.out.1
          rw [HE.out] at h1
          have h2 := congrArg List.length h1
          have h3 := HL.out
          simp only [List.length_append, List.length_cons] at h2
          have : (shiftZ T T.zs k).1.length ≤ 256 := h3
          omega
        have nkh : k' ≠ hole := by rw [← HKE.out]; exact f2
        have zg := (HZ.out.1 _ rfl).2
        simp only at zg
        gi_wp2_with fail
        refine ⟨trivial, ?_⟩
        gi_at_call 37
        refine (callsIn_wide.2 HA.out).mono ?_
        rintro e w5 ⟨rfl, hb⟩
        have qa := (hb.cell (p := ⟨g, k', none⟩) zg).trans q
        have fa := (hb.frozen (p := ⟨g, k', none⟩) zg).trans f
        have qb := (hb.cell (p := ⟨g, hole, none⟩) zg).trans qh
        have fb := (hb.frozen (p := ⟨g, hole, none⟩) zg).trans fh
        have qc := (World.cell?_setCell_other w5 ⟨g, hole, none⟩ ⟨g, k', none⟩ (.int .i64 x) (show (⟨g, hole, none⟩ : Addr) ≠ ⟨g, k', none⟩ from fun e => nkh (by cases e; rfl))).trans qa
        have fc := (World.frozen?_setCell w5 ⟨g, hole, none⟩ ⟨g, k', none⟩ (.int .i64 x)).trans fa
        have J6 := hJ1 _ _ k' (.int .i64 (-1)) (hJ1 _ _ hole (.int .i64 x) (hJ2 _ _ _ hJs hb))
        obtain ⟨fn, tmps, assign, body, hy, hRd⟩ := hY pre x _ J6 hpl
        have O5 := rowOwn_block HZ.out (hb.block _ zg) hb.size
        have hzl := HH.out.len
        have O6 := O5.set hole (by rw [hzl]; exact hl) x
        rw [Nat.zero_add] at O6
        have O7 := O6.set k' (by rw [List.length_set, hzl]; exact hk') (-1)
        rw [Nat.zero_add, ← hmv.out] at O7
        have HO7 := Lib.hid O7
        have HB5 := Lib.hid (((HK.out.below (hb.mono (show B ≤ wr.heap.size from Nat.le_trans hB HK.out.1))).set hole (.int .i64 x)).set k' (.int .i64 (-1)))
        clear O5 O6 O7
        gi_wp2
        refine hRd.mono ?_
        rintro e W3 ⟨rfl, hJ3, hk3⟩
        have O8 := Lib.hid (rowOwn_block HO7.out (hk3.block _ hg) hk3.size)
        have K8 := Lib.hid (HB5.out.below hk3)
        gi_wp2
        go_roundw
        case rel =>
          refine ⟨moved T zs hole d, k', 1, pre ++ [x], by rw [← HKE.out]; exact HN, ?_, rfl, rfl, Lib.hid ?_, hJ3, O8, K8⟩
          · have h0 : fwd T.zs.length k' (1 - 1) = k' := by unfold fwd; rw [if_pos (by omega)]; rfl
            rw [h0]
          · have h1 := HP.out
            rw [HE.out, HKE.out, HX.out] at h1
            refine ⟨?_, h1.2⟩
            rw [← h1.1]; simp
        case measure =>
          rw [read_own O8.out HN.out.len, read_own HZ.out HH.out.len]
          exact HM.out

theorem shifts_writes (n : Nat) (hn : 1 ≤ n) (B1 B2 g B k c : Nat) (T : Tab) (hk : k < T.zs.length) (hH : Hole T (T.zs.set k (-1)) k 1) (w : World)
    (hB1 : w.cell? ⟨B1, 0, none⟩ = some (.int .i64 k)) (hB2 : w.cell? ⟨B2, 0, none⟩ = some (.int .i64 T.t)) (hB3 : w.cell? ⟨B2, 1, none⟩ = some (.int .i64 T.p)) (hB4 : w.cell? ⟨B2, 2, none⟩ = some (.slice (some ⟨g, 0, none⟩) T.zs.length c))
    (hO : OwnInts w g (some ⟨g, 0, none⟩) T.zs) (b1 : B1 < B) (b2 : B2 < B) (hg : g < B) (n1 : B1 ≠ g) (n2 : B2 ≠ g) (hB : B ≤ w.heap.size) :
    SeqWrites Fence.wide n Tryz.prog 146 #[.pointer (some ⟨B1, 0, none⟩), .pointer (some ⟨B2, 0, none⟩)] g B 256 (fun xs W' => xs = (shiftZ T T.zs k).1 ∧ OwnInts W' g (some ⟨g, 0, none⟩) (shiftZ T T.zs k).2) w := fun l J W hW hJ1 hJ2 hY h0 =>
  shifts1_in n hn l B1 B2 g B k c T hk hH J W hJ1 hJ2 hY ((World.cell?_of_block (a := ⟨B1, 0, none⟩) (hW.block _ b1)).trans hB1) ((World.cell?_of_block (a := ⟨B2, 0, none⟩) (hW.block _ b2)).trans hB2)
    ((World.cell?_of_block (a := ⟨B2, 1, none⟩) (hW.block _ b2)).trans hB3) ((World.cell?_of_block (a := ⟨B2, 2, none⟩) (hW.block _ b2)).trans hB4) (rowOwn_block hO (hW.block _ hg) hW.size) b1 b2 hg n1 n2 (Nat.le_trans hB hW.size) h0

set_option maxHeartbeats 1000000 in
/-- shifts: both are boxed; the function value captures the boxes. -/
theorem shifts_any (T : Tab) (a : Option Addr) (c : Nat) (x : Int) (w : World) :
    Calls Tryz.prog 124 #[tabV T a c, .int .i64 x] w fun e w' => e = .returned (.func (.func 146) #[] #[.pointer (some ⟨w.heap.size + 1, 0, none⟩), .pointer (some ⟨w.heap.size, 0, none⟩)]) ∧
      w' = (w.alloc (.cells #[.int .i64 T.t, .int .i64 T.p, .slice a T.zs.length c] 25)).alloc (.cells #[.int .i64 x] 3) := by
  go_enter Tryz.func124, Tryz.ntmps124
  go_wp2
  go_ret
  exact ⟨rfl, rfl⟩

end Go.Proofs.YtalehninmdcoeaaGreatDoor

/-
  Fair tables: several texts as one.
-/
import Derived.Test.YtpncpeokdcolpaaGreatDoorLow
import Derived.Test.YtpncpeokdcolpaaGreatDoorAway
import Derived.Test.YtpncpeokdcolpaaGreatDoorMath
import Derived.Test.YtpncpeokdcolpaaGreatDoorShelf
import Derived.Test.YtpncpeokdcolpaaGreatDoorDrop
import Derived.Test.YtpncpeokdcolpaaGreatDoorWithout
import Derived.Test.YtpncpeokdcolpaaGreatDoorFindI
import Derived.Test.YtpncpeokdcolpaaGreatDoorLostI
import Derived.Test.YtpncpeokdcolpaaGreatDoorCopyRow
import Derived.Test.YtpncpeokdcolpaaGreatDoorCollectW
import Derived.Test.YtpncpeokdcolpaaGreatDoorFinds2All
section
namespace Go.Proofs.YtpncpeokdcolpaaGreatDoor
open Go.RowKit Go.Shelf
attribute [local go_sem] Oper.semAt_some

theorem rowOwn_block {w w' : World} {g : Nat} {zs : List Int} (h : OwnInts w g (some ⟨g, 0, none⟩) zs) (hb : w'.heap[g]? = w.heap[g]?) (hz : w.heap.size ≤ w'.heap.size) : OwnInts w' g (some ⟨g, 0, none⟩) zs := by
  refine ⟨fun p hp => ⟨(h.1 p hp).1, Nat.lt_of_lt_of_le (h.1 p hp).2 hz⟩, fun h0 => ?_⟩
  obtain ⟨b, off, e, hc, hf⟩ := h.2 h0
  cases e
  exact ⟨g, 0, rfl, fun j hj => (World.cell?_of_block (a := ⟨g, 0 + j, none⟩) hb).trans (hc j hj), fun j hj => (World.frozen?_of_block (a := ⟨g, 0 + j, none⟩) hb).trans (hf j hj)⟩
theorem rowOwn_at {w : World} {g : Nat} {zs : List Int} (h : OwnInts w g (some ⟨g, 0, none⟩) zs) {i : Nat} (hi : i < zs.length) : w.cell? ⟨g, i, none⟩ = some (.int .i64 (nth zs i)) ∧ w.frozen? ⟨g, i, none⟩ = false := by
  obtain ⟨b, off, e, hc, hf⟩ := h.2 (by omega)
  cases e
  have := hc i hi
  have h2 := hf i hi
  rw [Nat.zero_add] at this h2
  exact ⟨this, h2⟩
/-- The row that lies in a block. -/
def readInts (w : World) (g n : Nat) : List Int := (List.range n).map fun i => intOf ((w.cell? ⟨g, i, none⟩).getD undef)
theorem read_own {w : World} {g n : Nat} {zs : List Int} (h : OwnInts w g (some ⟨g, 0, none⟩) zs) (hn : zs.length = n) : readInts w g n = zs := by
  subst hn
  refine nth_ext (by simp [readInts]) fun i hi => ?_
  have hi : i < zs.length := by simpa [readInts] using hi
  have : (readInts w g zs.length)[i]? = some (intOf ((w.cell? ⟨g, i, none⟩).getD undef)) := by
    unfold readInts
    rw [List.getElem?_map, List.getElem?_range hi]; rfl
  rw [nth, this, (rowOwn_at h hi).1]
  rfl
theorem keep_rest {A B C : World} {g b : Nat} {v : Value} (h : ∀ k, k < B.heap.size → k ≠ g → C.heap[k]? = B.heap[k]?) (hne : b ≠ g) (hc : B.cell? ⟨b, 0, none⟩ = some v) : C.cell? ⟨b, 0, none⟩ = some v :=
  (World.cell?_of_block (a := ⟨b, 0, none⟩) (h b (World.block_lt_of_cell? B _ hc) hne)).trans hc

/-- Below B all lies as it lay, but the block g. -/
def KeepBut (B g : Nat) (A A' : World) : Prop := A.heap.size ≤ A'.heap.size ∧ ∀ k, k < B → k ≠ g → A'.heap[k]? = A.heap[k]?
theorem KeepBut.refl (B g : Nat) (A : World) : KeepBut B g A A := ⟨Nat.le_refl _, fun _ _ _ => rfl⟩
theorem KeepBut.below {B g : Nat} {A A' A'' : World} (h : KeepBut B g A A') (hb : Below B A' A'') : KeepBut B g A A'' := ⟨Nat.le_trans h.1 hb.size, fun k h1 h2 => (hb.block k h1).trans (h.2 k h1 h2)⟩
theorem KeepBut.set {B g : Nat} {A A' : World} (h : KeepBut B g A A') (o : Nat) (v : Value) : KeepBut B g A (A'.setCell ⟨g, o, none⟩ v) := ⟨by simpa [World.setCell] using h.1, fun k h1 h2 => (Below.heap_setCell A' ⟨g, o, none⟩ v k h2).trans (h.2 k h1 h2)⟩
theorem KeepBut.cell {B g : Nat} {A A' : World} (h : KeepBut B g A A') {b o : Nat} {v : Value} (hb : b < B) (hne : b ≠ g) (hc : A.cell? ⟨b, o, none⟩ = some v) : A'.cell? ⟨b, o, none⟩ = some v :=
  (World.cell?_of_block (a := ⟨b, o, none⟩) (h.2 b hb hne)).trans hc

theorem fwd_next {n h d : Nat} (hh : h < n) (h1 : 1 ≤ d) (h2 : d ≤ n) : ((fwd n h (d - 1) : Nat) + 1 : Int).tmod n = (fwd n h d : Nat) := by
  rw [Int.tmod_eq_emod_of_nonneg (by omega)]
  have : ((fwd n h (d - 1) : Nat) + 1 : Int) % n = ((fwd n h (d - 1) + 1) % n : Nat) := by simp
  rw [this]
  have h3 := fwd_lt hh (m := d - 1) (by omega)
  rcases fwd_cases n h (d - 1) with ⟨c1, e1⟩ | ⟨c1, e1⟩ <;> rcases fwd_cases n h d with ⟨c2, e2⟩ | ⟨c2, e2⟩
  · rw [Nat.mod_eq_of_lt (by omega)]; omega
  · rw [show fwd n h (d - 1) + 1 = n by omega, Nat.mod_self]; omega
  · omega
  · rw [Nat.mod_eq_of_lt (by omega)]; omega
theorem shift_len (T : Tab) : ∀ (f : Nat) (zs : List Int) (hole d : Nat), Hole T zs hole d → (shiftF T f zs hole d).1.length ≤ sumN (awZ T zs) T.zs.length := by
  intro f
  induction f with
  | zero => intro zs hole d _; simp [shiftF]
  | succ f ih =>
    intro zs hole d hH
    simp only [shiftF]
    split
    · simp
    · rename_i hx
      split
      · exact ih _ _ _ (hH.pass hx)
      · rename_i ha
        have h1 := ih _ _ _ (hH.move hx)
        have h2 := meas_move hH hx ha
        have hd := hH.d1
        have hd2 := (hH.full hx).1
        have l2 : zs.length ≤ 16 := (valid_facts hH.val).1.2
        rw [hH.len] at l2
        unfold meas at h2
        unfold moved at h1 h2
        simp only [List.length_cons]
        omega
theorem sum_le {f : Nat → Nat} {n b : Nat} (h : ∀ i, i < n → f i ≤ b) : sumN f n ≤ b * n := by
  induction n with
  | zero => simp [sumN]
  | succ n ih =>
    simp only [sumN]
    have := ih fun i hi => h i (by omega)
    have := h n (by omega)
    rw [Nat.mul_add]; omega
theorem shiftR_len {T : Tab} {zs : List Int} {hole d : Nat} (h : Hole T zs hole d) : (shiftR T zs hole d).1.length ≤ 256 := by
  have h1 := shift_len T (meas T zs d + 1) zs hole d h
  have l2 : zs.length ≤ 16 := (valid_facts h.val).1.2
  rw [h.len] at l2
  have h2 := sum_le (f := awZ T zs) (n := T.zs.length) (b := 16) fun i hi => by
    unfold awZ
    split
    · have := dst_lt (h.home (nth zs i)) hi
      unfold awN; omega
    · omega
  unfold shiftR
  omega

set_option maxRecDepth 100000 in
set_option maxHeartbeats 2000000 in
theorem shifts1_in (n : Nat) (_hn : 1 ≤ n) (l B1 B2 g B k c : Nat) (T : Tab) (hk : k < T.zs.length) (hH : Hole T (T.zs.set k (-1)) k 1) (J : List Int → World → Prop) (W : World)
    (hJ1 : ∀ s A o v, J s A → J s (A.setCell ⟨g, o, none⟩ v)) (hJ2 : ∀ s A A', J s A → Below A.heap.size A A' → J s A')
    (hY : ∀ pre x W1, J pre W1 → pre.length < 256 → YieldAt Fence.wide (n - 1) Tryz.prog l #[.int .i64 x] W1 fun e W' => e = .returned (.bool true) ∧ J (pre ++ [x]) W' ∧ Below B W1 W')
    (hB1 : W.cell? ⟨B1, 0, none⟩ = some (.int .i64 k)) (hB2 : W.cell? ⟨B2, 0, none⟩ = some (.int .i64 T.t)) (hB3 : W.cell? ⟨B2, 1, none⟩ = some (.int .i64 T.p)) (hB4 : W.cell? ⟨B2, 2, none⟩ = some (.slice (some ⟨g, 0, none⟩) T.zs.length c))
    (hO : OwnInts W g (some ⟨g, 0, none⟩) T.zs) (b1 : B1 < B) (b2 : B2 < B) (hg : g < B) (n1 : B1 ≠ g) (n2 : B2 ≠ g) (hB : B ≤ W.heap.size) (h0 : J [] W) :
    CallsIn Fence.wide n Tryz.prog 148 #[.func (.yield l) #[] #[], .pointer (some ⟨B1, 0, none⟩), .pointer (some ⟨B2, 0, none⟩)] W fun e W' => (∃ v, e = .returned v) ∧
      ∃ xs, xs.length ≤ 256 ∧ (xs = (shiftZ T T.zs k).1 ∧ OwnInts W' g (some ⟨g, 0, none⟩) (shiftZ T T.zs k).2) ∧ J xs W' := by
  have hl0 := rowOwn_at hO hk
  obtain ⟨q0, f0⟩ := hl0
  have k0 : (0 : Int) ≤ (k : Int) := by omega
  have k1 : (k : Int) < (T.zs.length : Int) := by omega
  have HL := Lib.hid (shiftR_len hH)
  have HO1 : OwnInts (W.drew.setCell ⟨g, k, none⟩ (.int .i64 (-1))) g (some ⟨g, 0, none⟩) (T.zs.set k (-1)) := by
    have := (hO.below ((Below.refl _ W).drew)).set k hk (-1); rwa [Nat.zero_add] at this
  have HOH := Lib.hid HO1
  have HHH := Lib.hid hH
  have HJ0 := Lib.hid (hJ1 _ _ k (.int .i64 (-1)) (hJ2 _ _ _ h0 ((Below.refl _ W).drew)))
  clear HO1 hH hO h0
  refine callsIn_of_wp Tryz.func148 rfl trivial ?_ rfl
  simp only [Tryz.ntmps148, List.size_toArray, List.length_cons, List.length_nil, Nat.reduceAdd, Nat.reduceSub, Array.replicate_succ, Array.replicate_zero, List.push_toArray, List.append_toArray, List.nil_append, List.cons_append]
  gi_wp2_with fail
  gi_region
  gi_wp2
  gi_loopw [4, 5, 6] (fun s hp b wr => ∃ (zs : List Int) (hole d : Nat) (pre : List Int), Hid (Hole T zs hole d) ∧ s = .int .i64 (fwd T.zs.length hole (d - 1)) ∧ hp = .pointer (some ⟨g, hole, none⟩) ∧ b = .int .i64 d ∧
      Hid (pre ++ (shiftR T zs hole d).1 = (shiftZ T T.zs k).1 ∧ (shiftR T zs hole d).2 = (shiftZ T T.zs k).2) ∧ J pre wr ∧ Hid (OwnInts wr g (some ⟨g, 0, none⟩) zs) ∧ Hid (KeepBut B g W wr))
    (fun _ _ b wr => meas T (readInts wr g T.zs.length) (intOf b).toNat)
  case atStart => exact ⟨T.zs.set k (-1), k, 1, [], HHH, by simp [fwd, hk], rfl, rfl, Lib.hid ⟨rfl, rfl⟩, HJ0.out, HOH, Lib.hid (((KeepBut.refl B g W).below ((Below.refl _ _).drew)).set _ _)⟩
  case round =>
    obtain ⟨zs, hole, d, pre, HH, rfl, rfl, rfl, HP, hJs, HZ, HK⟩ := hrel
    clear HOH HHH HJ0 q0 f0 k0 k1
    have hl := HH.out.lt
    have hd1 := HH.out.d1
    have hd2 := HH.out.d2
    have hn0 : 1 ≤ T.zs.length := by omega
    have hk' := HH.out.klt
    have hp' : fwd T.zs.length hole (d - 1) < T.zs.length := fwd_lt hl (by omega)
    have hnx := fwd_next hl hd1 hd2
    obtain ⟨q, f⟩ := rowOwn_at HZ.out (i := fwd T.zs.length hole d) (by rw [HH.out.len]; exact hk')
    obtain ⟨qh, fh⟩ := rowOwn_at HZ.out (i := hole) (by rw [HH.out.len]; exact hl)
    have c1 := HK.out.cell b2 n2 hB2
    have c2 := HK.out.cell b2 n2 hB3
    have c3 := HK.out.cell b2 n2 hB4
    have HF := Lib.hid (show nth zs (fwd T.zs.length hole d) ≠ -1 → _ from HH.out.full)
    obtain ⟨k', hke⟩ : ∃ k', fwd T.zs.length hole d = k' := ⟨_, rfl⟩
    have HKE := Lib.hid hke
    rw [hke] at hk' hnx q f HF
    generalize fwd T.zs.length hole (d - 1) = p' at hp' hnx ⊢
    clear hke
    obtain ⟨x, hx⟩ : ∃ x, nth zs k' = x := ⟨_, rfl⟩
    have HX := Lib.hid hx
    rw [hx] at q HF
    clear hx
    have hn1 : ((T.zs.length : Int) == 0) = false := beq_eq_false_iff_ne.2 (by omega)
    have i0 : (0 : Int) ≤ (k' : Int) := by omega
    have i1 : (k' : Int) < (T.zs.length : Int) := by omega
    have hT : Hid True := trivial
    have l16 : T.zs.length ≤ 16 := by have := (valid_facts HH.out.val).1.2; rw [← HH.out.len]; exact this
    have hwd := Lib.hid (show wrap64 ((d : Int) + 1) = ((d + 1 : Nat) : Int) by rw [IntWalk.wrap64_in _ (by omega)]; omega)
    clear l16
    have hw : wrap64 ((p' : Int) + 1) = (p' : Int) + 1 := by
      have : T.zs.length ≤ 16 := by have := (valid_facts HH.out.val).1.2; rw [← HH.out.len]; exact this
      exact IntWalk.wrap64_in _ (by omega)
    rw [← hw] at hnx
    clear hw
    replace hnx : Hid True → (wrap64 ((p' : Int) + 1)).tmod (T.zs.length : Int) = (k' : Int) := fun _ => hnx
    by_cases hx1 : x = -1
    · subst hx1
      have HE := Lib.hid (shift_stop (T := T) (zs := zs) (hole := hole) (d := d) (by rw [HKE.out]; exact HX.out))
      gi_wp2
      refine bodyPost_ret (results_none rfl _ _ _) rfl ?_
      have hE := HE.out
      obtain ⟨hP1, hP2⟩ := HP.out
      rw [hE] at hP1 hP2
      simp only [List.append_nil] at hP1
      refine ⟨⟨_, rfl⟩, pre, ?_, ⟨hP1, by rw [← hP2]; exact HZ.out⟩, hJs⟩
      rw [hP1]; exact HL.out
    · have hxb : (x == -1) = false := beq_eq_false_iff_ne.2 hx1
      have hXF : nth zs (fwd T.zs.length hole d) ≠ -1 := by rw [HKE.out, HX.out]; exact hx1
      obtain ⟨f1, f2, f3, f4⟩ := HH.out.full hXF
      have HA : Hid (Calls Tryz.prog 61 #[.agg #[.int .i64 T.t, .int .i64 T.p, .slice (some ⟨g, 0, none⟩) T.zs.length c], .int .i64 k'] wr fun e w' => e = .returned (.int .i64 (awN T zs k' : Nat)) ∧ Below wr.heap.size wr w') := Lib.hid (by
        have h := AwayOf_any (tab T zs) (some ⟨g, 0, none⟩) c (k' : Int) wr (by show zs.length ≤ _; have := (valid_facts HH.out.val).1.2; have : zs.length ≤ 16 := this; omega) HZ.out.ints
        have e : awayOf (tab T zs) (k' : Int) = awN T zs k' := by
          rw [← HKE.out]
          exact awN_of HH.out.val HH.out.len HH.out.klt f3
        rw [e] at h
        have e2 : tabV (tab T zs) (some ⟨g, 0, none⟩) c = .agg #[.int .i64 T.t, .int .i64 T.p, .slice (some ⟨g, 0, none⟩) T.zs.length c] := by
          show Value.agg #[_, _, .slice _ zs.length c] = _
          rw [HH.out.len]; rfl
        rw [e2] at h
        exact h)
      obtain ⟨aw, haw⟩ : ∃ aw, awN T zs k' = aw := ⟨_, rfl⟩
      rw [haw] at HA
      have HAW := Lib.hid haw
      clear haw hXF
      by_cases ha : aw < d
      · have t1 : decide ((aw : Int) < (d : Int)) = true := by simp; omega
        have HE := Lib.hid (shift_pass (T := T) (zs := zs) (hole := hole) (d := d) HH.out (by rw [HKE.out, HX.out]; exact hx1) (by rw [HKE.out, HAW.out]; exact ha))
        have HM := Lib.hid (meas_pass HH.out (by rw [HKE.out, HX.out]; exact hx1))
        have HN := Lib.hid (HH.out.pass (by rw [HKE.out, HX.out]; exact hx1))
        gi_wp2_with (refine ⟨trivial, ?_⟩; gi_at_call 61; refine (callsIn_wide.2 HA.out).mono ?_; rintro e w5 ⟨rfl, hb⟩)
        have O5 := Lib.hid (rowOwn_block HZ.out (hb.block _ (HZ.out.1 _ rfl).2) hb.size)
        have J5 := hJ2 _ _ _ hJs hb
        have K5 := Lib.hid (HK.out.below (hb.mono (show B ≤ wr.heap.size from Nat.le_trans hB HK.out.1)))
        go_roundw
        case rel =>
          refine ⟨zs, hole, d + 1, pre, HN, ?_, rfl, by rw [hwd.out], Lib.hid (by rw [← HE.out]; exact HP.out), J5, O5, K5⟩
          rw [show d + 1 - 1 = d by omega, HKE.out]
        case measure =>
          rw [read_own O5.out HH.out.len, read_own HZ.out HH.out.len]
          rw [hwd.out]
          exact HM.out
      · have t1 : decide ((aw : Int) < (d : Int)) = false := by simp; omega
        have HE := Lib.hid (shift_move (T := T) (zs := zs) (hole := hole) (d := d) HH.out (by rw [HKE.out, HX.out]; exact hx1) (by rw [HKE.out, HAW.out]; exact ha))
        have HM := Lib.hid (meas_move HH.out (by rw [HKE.out, HX.out]; exact hx1) (by rw [HKE.out, HAW.out]; exact ha))
        have HN := Lib.hid (HH.out.move (by rw [HKE.out, HX.out]; exact hx1))
        have hmv : Hid (moved T zs hole d = (zs.set hole x).set k' (-1)) := Lib.hid (by unfold moved; rw [HKE.out, HX.out])
        have hpl : pre.length < 256 := by
          have h1 := HP.out.1
          rw [HE.out] at h1
          have h2 := congrArg List.length h1
          have h3 := HL.out
          simp only [List.length_append, List.length_cons] at h2
          have : (shiftZ T T.zs k).1.length ≤ 256 := h3
          omega
        have nkh : k' ≠ hole := by rw [← HKE.out]; exact f2
        have zg := (HZ.out.1 _ rfl).2
        simp only at zg
        gi_wp2_with fail
        refine ⟨trivial, ?_⟩
        gi_at_call 61
        refine (callsIn_wide.2 HA.out).mono ?_
        rintro e w5 ⟨rfl, hb⟩
        have qa := (hb.cell (p := ⟨g, k', none⟩) zg).trans q
        have fa := (hb.frozen (p := ⟨g, k', none⟩) zg).trans f
        have qb := (hb.cell (p := ⟨g, hole, none⟩) zg).trans qh
        have fb := (hb.frozen (p := ⟨g, hole, none⟩) zg).trans fh
        have qc := (World.cell?_setCell_other w5 ⟨g, hole, none⟩ ⟨g, k', none⟩ (.int .i64 x) (show (⟨g, hole, none⟩ : Addr) ≠ ⟨g, k', none⟩ from fun e => nkh (by cases e; rfl))).trans qa
        have fc := (World.frozen?_setCell w5 ⟨g, hole, none⟩ ⟨g, k', none⟩ (.int .i64 x)).trans fa
        have J6 := hJ1 _ _ k' (.int .i64 (-1)) (hJ1 _ _ hole (.int .i64 x) (hJ2 _ _ _ hJs hb))
        obtain ⟨fn, tmps, assign, body, hy, hRd⟩ := hY pre x _ J6 hpl
        have O5 := rowOwn_block HZ.out (hb.block _ zg) hb.size
        have hzl := HH.out.len
        have O6 := O5.set hole (by rw [hzl]; exact hl) x
        rw [Nat.zero_add] at O6
        have O7 := O6.set k' (by rw [List.length_set, hzl]; exact hk') (-1)
        rw [Nat.zero_add, ← hmv.out] at O7
        have HO7 := Lib.hid O7
        have HB5 := Lib.hid (((HK.out.below (hb.mono (show B ≤ wr.heap.size from Nat.le_trans hB HK.out.1))).set hole (.int .i64 x)).set k' (.int .i64 (-1)))
        clear O5 O6 O7
        gi_wp2
        refine hRd.mono ?_
        rintro e W3 ⟨rfl, hJ3, hk3⟩
        have O8 := Lib.hid (rowOwn_block HO7.out (hk3.block _ hg) hk3.size)
        have K8 := Lib.hid (HB5.out.below hk3)
        gi_wp2
        go_roundw
        case rel =>
          refine ⟨moved T zs hole d, k', 1, pre ++ [x], by rw [← HKE.out]; exact HN, ?_, rfl, rfl, Lib.hid ?_, hJ3, O8, K8⟩
          · have h0 : fwd T.zs.length k' (1 - 1) = k' := by unfold fwd; rw [if_pos (by omega)]; rfl
            rw [h0]
          · have h1 := HP.out
            rw [HE.out, HKE.out, HX.out] at h1
            refine ⟨?_, h1.2⟩
            rw [← h1.1]; simp
        case measure =>
          rw [read_own O8.out HN.out.len, read_own HZ.out HH.out.len]
          exact HM.out

theorem shifts_writes (n : Nat) (hn : 1 ≤ n) (B1 B2 g B k c : Nat) (T : Tab) (hk : k < T.zs.length) (hH : Hole T (T.zs.set k (-1)) k 1) (w : World)
    (hB1 : w.cell? ⟨B1, 0, none⟩ = some (.int .i64 k)) (hB2 : w.cell? ⟨B2, 0, none⟩ = some (.int .i64 T.t)) (hB3 : w.cell? ⟨B2, 1, none⟩ = some (.int .i64 T.p)) (hB4 : w.cell? ⟨B2, 2, none⟩ = some (.slice (some ⟨g, 0, none⟩) T.zs.length c))
    (hO : OwnInts w g (some ⟨g, 0, none⟩) T.zs) (b1 : B1 < B) (b2 : B2 < B) (hg : g < B) (n1 : B1 ≠ g) (n2 : B2 ≠ g) (hB : B ≤ w.heap.size) :
    SeqWrites Fence.wide n Tryz.prog 148 #[.pointer (some ⟨B1, 0, none⟩), .pointer (some ⟨B2, 0, none⟩)] g B 256 (fun xs W' => xs = (shiftZ T T.zs k).1 ∧ OwnInts W' g (some ⟨g, 0, none⟩) (shiftZ T T.zs k).2) w := fun l J W hW hJ1 hJ2 hY h0 =>
  shifts1_in n hn l B1 B2 g B k c T hk hH J W hJ1 hJ2 hY ((World.cell?_of_block (a := ⟨B1, 0, none⟩) (hW.block _ b1)).trans hB1) ((World.cell?_of_block (a := ⟨B2, 0, none⟩) (hW.block _ b2)).trans hB2)
    ((World.cell?_of_block (a := ⟨B2, 1, none⟩) (hW.block _ b2)).trans hB3) ((World.cell?_of_block (a := ⟨B2, 2, none⟩) (hW.block _ b2)).trans hB4) (rowOwn_block hO (hW.block _ hg) hW.size) b1 b2 hg n1 n2 (Nat.le_trans hB hW.size) h0

set_option maxHeartbeats 1000000 in
/-- shifts: both are boxed; the function value captures the boxes. -/
theorem shifts_any (T : Tab) (a : Option Addr) (c : Nat) (x : Int) (w : World) :
    Calls Tryz.prog 126 #[tabV T a c, .int .i64 x] w fun e w' => e = .returned (.func (.func 148) #[] #[.pointer (some ⟨w.heap.size + 1, 0, none⟩), .pointer (some ⟨w.heap.size, 0, none⟩)]) ∧
      w' = (w.alloc (.cells #[.int .i64 T.t, .int .i64 T.p, .slice a T.zs.length c] 27)).alloc (.cells #[.int .i64 x] 3) := by
  go_enter Tryz.func126, Tryz.ntmps126
  go_wp2
  go_ret
  exact ⟨rfl, rfl⟩

end Go.Proofs.YtpncpeokdcolpaaGreatDoor
end

section
namespace Go.Proofs.YtpncpeokdcolpaaGreatDoor
open Go.RowKit

theorem shiftT_len (T : Tab) (key : Int) : (shiftT T key).zs.length ≤ 16 := by
  unfold shiftT
  split
  · rename_i h
    obtain ⟨k, D⟩ := shift_says h
    obtain rfl : (findOf T key).toNat = k := by rw [D.find]; simp
    have h1 := D.left.len
    have h2 := (valid_facts D.val).1.2
    show (shiftZ T T.zs _).2.length ≤ 16
    omega
  · simp
theorem shiftL_len (T : Tab) (key : Int) : (shiftL T key).length ≤ 1000 := by
  unfold shiftL
  split
  · rename_i h
    obtain ⟨k, D⟩ := shift_says h
    obtain rfl : (findOf T key).toNat = k := by rw [D.find]; simp
    have := shiftR_len D.hole
    show (shiftR T _ _ 1).1.length ≤ 1000
    omega
  · simp
theorem shiftT_no {T : Tab} {key : Int} (h : shiftOk T key = false) : shiftT T key = ⟨0, 0, []⟩ ∧ shiftL T key = [] := by simp [shiftT, shiftL, h]
theorem shiftT_yes {T : Tab} {key : Int} {k : Nat} (h : shiftOk T key = true) (hk : findOf T key = k) : shiftT T key = tab T (shiftZ T T.zs k).2 ∧ shiftL T key = (shiftZ T T.zs k).1 := by
  unfold shiftT shiftL
  rw [if_pos h, if_pos h, hk]
  exact ⟨rfl, rfl⟩

set_option maxHeartbeats 1000000 in
theorem isPlain_any (T : Tab) (a : Option Addr) (c : Nat) (w : World) (hx : T.zs.length ≤ 9223372036854775807) (h1 : IntsAt w a T.zs) :
    Calls Tryz.prog 90 #[tabV T a c] w fun e w' => e = .returned (.bool (plainB T)) ∧ Below w.heap.size w w' := by
  have S0 := tabBox c 27 h1
  have HP : Hid (plainB T = (soundB T && !decide (-2 ∈ T.zs))) := Lib.hid rfl
  cases hs : soundB T
  · go_enter Tryz.func90, Tryz.ntmps90
    go_wp2_with fail
    refine (IsSound_any T a c _ hx (by exact S0.reads 1 rfl)).mono ?_
    rw [hs]
    rintro e w1 ⟨rfl, hb⟩
    have S1 := S0.below hb
    go_wp2
    go_ret
    exact ⟨by rw [HP.out, hs]; rfl, S1.old⟩
  · go_enter Tryz.func90, Tryz.ntmps90
    go_wp2_with fail
    refine (IsSound_any T a c _ hx (by exact S0.reads 1 rfl)).mono ?_
    rw [hs]
    rintro e w1 ⟨rfl, hb⟩
    have S1 := S0.below hb
    clear S0 hb
    obtain ⟨x0, x1, x2, x3, x4, x5, xz⟩ := facts3 (S1.cells 0 rfl)
    go_wp2_with fail
    refine (contains_any T.zs a c (-2) _ hx (by exact S1.reads 1 rfl)).mono ?_
    rintro e w2 ⟨rfl, rfl⟩
    cases hd : decide (-2 ∈ T.zs)
    · go_wp2
      go_ret
      exact ⟨by rw [HP.out, hs, hd]; rfl, S1.old⟩
    · go_wp2
      go_ret
      exact ⟨by rw [HP.out, hs, hd]; rfl, S1.old⟩

set_option maxHeartbeats 1000000 in
theorem l5Plain_any (T : Tab) (a : Option Addr) (c : Nat) (w : World) (hx : T.zs.length ≤ 9223372036854775807) (h1 : IntsAt w a T.zs) :
    Calls Tryz.prog 84 #[tabV T a c] w fun e w' => e = .returned (.bool (plainB T)) ∧ Below w.heap.size w w' := by
  have S0 := tabBox c 27 h1
  have HP : Hid (plainB T = (soundB T && decide (fnd T.zs (-2) < 0))) := Lib.hid (by
    unfold plainB
    congr 1
    rw [Bool.eq_iff_iff]
    simp only [Bool.not_eq_true', decide_eq_false_iff_not, decide_eq_true_eq]
    rcases fnd_cases T.zs (-2) with ⟨e, h⟩ | ⟨k, hk, e, h, _⟩
    · rw [e]
      exact ⟨fun _ => by omega, fun _ hm => by obtain ⟨i, hi, e2⟩ := mem_nth hm; exact h i hi e2⟩
    · rw [e]
      exact ⟨fun hn => absurd (by rw [← h]; exact nth_mem hk) hn, fun h2 => by omega⟩)
  cases hs : soundB T
  · go_enter Tryz.func84, Tryz.ntmps84
    go_wp2_with fail
    refine (specIsSound_any T a c _ hx (by exact S0.reads 1 rfl)).mono ?_
    rw [hs]
    rintro e w1 ⟨rfl, hb⟩
    have S1 := S0.below hb
    go_wp2
    go_ret
    exact ⟨by rw [HP.out, hs]; rfl, S1.old⟩
  · go_enter Tryz.func84, Tryz.ntmps84
    go_wp2_with fail
    refine (specIsSound_any T a c _ hx (by exact S0.reads 1 rfl)).mono ?_
    rw [hs]
    rintro e w1 ⟨rfl, hb⟩
    have S1 := S0.below hb
    clear S0 hb
    obtain ⟨x0, x1, x2, x3, x4, x5, xz⟩ := facts3 (S1.cells 0 rfl)
    go_wp2_with fail
    refine (l1Find_any a c T.zs (-2) _ hx (by exact S1.reads 1 rfl)).mono ?_
    rintro e w2 ⟨rfl, rfl⟩
    generalize fnd T.zs (-2) = m at HP ⊢
    go_wp2
    go_ret
    exact ⟨by rw [HP.out, hs]; rfl, S1.old⟩

/-- What shiftOut answers. -/
def ShiftRes (T : Tab) (key : Int) (w : World) (e : Ending) (w' : World) : Prop :=
  ∃ a c a2 c2, e = .returned (.tuple #[tabV (shiftT T key) a c, .slice a2 (shiftL T key).length c2, .bool (shiftOk T key)]) ∧ OwnInts w' w.heap.size a (shiftT T key).zs ∧ OwnInts w' w.heap.size a2 (shiftL T key) ∧ Below w.heap.size w w'
theorem shiftRes_no {T : Tab} {key : Int} {w w' : World} (h : shiftOk T key = false) (hb : Below w.heap.size w w') : ShiftRes T key w (.returned (.tuple #[tbl 0 0 none 0 0, .slice none 0 0, .bool false])) w' := by
  obtain ⟨e1, e2⟩ := shiftT_no h
  unfold ShiftRes
  rw [h, e1, e2]
  exact ⟨none, 0, none, 0, rfl, OwnInts.nil _ _, OwnInts.nil _ _, hb⟩

set_option maxRecDepth 100000 in
set_option maxHeartbeats 4000000 in
theorem shiftOut_any (T : Tab) (a : Option Addr) (c : Nat) (key : Int) (w : World) (hx : T.zs.length ≤ 9223372036854775807) (h1 : IntsAt w a T.zs) (hL : Laid w) :
    Calls Tryz.prog 82 #[tabV T a c, .int .i64 key] w (ShiftRes T key w) := by
  have S0 := (((St.start w).read h1).alloc #[.int .i64 T.t, .int .i64 T.p, .slice a T.zs.length c] 27).alloc #[.int .i64 0, .int .i64 0, .slice none 0 0] 27
  rw [World.size_alloc] at S0
  have L0 := Lib.hid (hL.below S0.old hL.pos)
  obtain ⟨pl, hpl⟩ : ∃ p, findOf T key = p := ⟨_, rfl⟩
  by_cases hp : 0 ≤ pl
  · have d : decide (0 ≤ pl) = true := decide_eq_true hp
    cases hs : plainB T
    · have E : Hid (shiftOk T key = false) := Lib.hid (by simp [shiftOk, hs])
      go_enter Tryz.func82, Tryz.ntmps82
      go_wp2_with fail
      refine (FindKey_any T a c key _ hx (by exact S0.reads 2 rfl) L0.out).mono ?_
      rw [hpl, d]
      rintro e w1 ⟨rfl, hb⟩
      have S1 := S0.below hb
      clear S0 hb
      obtain ⟨x0, x1, x2, x3, x4, x5, xz⟩ := facts3 (S1.cells 1 rfl)
      go_wp2_with fail
      refine (isPlain_any T a c _ hx (by exact S1.reads 2 rfl)).mono ?_
      rw [hs]
      rintro e w2 ⟨rfl, hb⟩
      have S2 := S1.below hb
      clear S1 hb x0 x1 x2 x3 x4 x5 xz
      obtain ⟨x0, x1, x2, x3, x4, x5, xz⟩ := facts3 (S2.cells 0 rfl)
      go_wp2
      refine bodyPost_ret (v := .tuple #[tbl 0 0 none 0 0, .slice none 0 0, .bool false]) (by simp [results, Tryz.results82, go_sem, x0, x1, x2, x3, x4, x5]) rfl (shiftRes_no E.out ?_)
      exact set3 S2.old (by omega) _ _ _
    · have ok : shiftOk T key = true := by simp [shiftOk, hs, hpl, hp]
      obtain ⟨k, D⟩ := shift_says ok
      obtain rfl : pl = k := hpl.symm.trans D.find
      have hlt := D.lt
      have hn := (valid_facts D.val).1
      obtain ⟨e1, e2⟩ := shiftT_yes ok D.find
      have E : Hid (shiftOk T key = true ∧ shiftT T key = tab T (shiftZ T T.zs k).2 ∧ shiftL T key = (shiftZ T T.zs k).1) := Lib.hid ⟨ok, e1, e2⟩
      have HH := Lib.hid D.hole
      have HZL := Lib.hid D.left.len
      obtain ⟨b, o, rfl, hc⟩ := h1 (by omega)
      clear ok D e1 e2
      go_enter Tryz.func82, Tryz.ntmps82
      go_wp2_with fail
      refine (FindKey_any T _ c key _ hx (by exact S0.reads 2 rfl) L0.out).mono ?_
      rw [hpl, d]
      rintro e w1 ⟨rfl, hb⟩
      have S1 := S0.below hb
      clear S0 hb
      obtain ⟨x0, x1, x2, x3, x4, x5, xz⟩ := facts3 (S1.cells 1 rfl)
      go_wp2_with fail
      refine (isPlain_any T _ c _ hx (by exact S1.reads 2 rfl)).mono ?_
      rw [hs]
      rintro e w2 ⟨rfl, hb⟩
      have S2 := S1.below hb
      have z2 : w.heap.size + 1 < w2.heap.size := S2.sz 0 rfl
      clear S1 hb x0 x1 x2 x3 x4 x5 xz
      obtain ⟨x0, x1, x2, x3, x4, x5, xz⟩ := facts3 (S2.cells 1 rfl)
      go_wp2_with fail
      refine (Tryz.slices_Clone_int b o T.zs.length c T.zs _ (Nat.le_refl _) (by omega) (fun j hj => ?_)).mono ?_
      · obtain ⟨b', o', e, hc'⟩ := (S2.reads 2 rfl) (by omega)
        cases e
        exact hc' j hj
      rintro e w3 ⟨v', rfl, hown, _, hb⟩
      obtain ⟨g, c', rfl⟩ := ownsRow_pos hown (by omega)
      rw [List.take_length] at hown
      have HO := ownsRow_ints hown
      have hg := HO.1 _ rfl
      simp only at hg
      have z3 := hb.size
      have S3 := (S2.below hb).add (It.own g (g + 1) (some ⟨g, 0, none⟩) T.zs) (by show g + 1 ≤ w3.heap.size; omega) ⟨⟨fun p hp => by cases hp; exact ⟨Nat.le_refl _, hg.2⟩, HO.2⟩, fun p hp => by cases hp; exact Nat.lt_succ_self _⟩
      clear hown hb S2 hc h1 HO x0 x1 x2 x3 x4 x5 xz
      obtain ⟨x0, x1, x2, x3, x4, x5, xz⟩ := facts3 (S3.cells 2 rfl)
      have S4 := S3.setBoxAt 2 rfl 2 (.slice (some ⟨g, 0, none⟩) T.zs.length c') (c' := #[.int .i64 T.t, .int .i64 T.p, .slice (some ⟨g, 0, none⟩) T.zs.length c']) (by have := setCell_inRow (S3.cells 2 rfl) 2 (.slice (some ⟨g, 0, none⟩) T.zs.length c'); simpa using this) (by simp [Far, It.box, It.own, It.read] <;> omega) (by omega)
      have z4 : w3.heap.size ≤ (w3.setCell ⟨w.heap.size, 2, none⟩ (.slice (some ⟨g, 0, none⟩) T.zs.length c')).heap.size := by simp [World.setCell]
      go_wp2_with fail
      clear x0 x1 x2 x3 x4 x5 xz S3
      generalize w3.setCell ⟨w.heap.size, 2, none⟩ (.slice (some ⟨g, 0, none⟩) T.zs.length c') = w4 at S4 z4 ⊢
      refine (shifts_any T (some ⟨g, 0, none⟩) c' (k : Int) _).mono ?_
      rintro e w5 ⟨rfl, rfl⟩
      have S5 := (S4.alloc #[.int .i64 T.t, .int .i64 T.p, .slice (some ⟨g, 0, none⟩) T.zs.length c'] 27).alloc #[.int .i64 k] 3
      have z5 : w4.heap.size + 1 + 1 ≤ ((w4.alloc (.cells #[.int .i64 T.t, .int .i64 T.p, .slice (some ⟨g, 0, none⟩) T.zs.length c'] 27)).alloc (.cells #[.int .i64 k] 3)).heap.size := by simp
      rw [World.size_alloc] at S5
      generalize (w4.alloc (.cells #[.int .i64 T.t, .int .i64 T.p, .slice (some ⟨g, 0, none⟩) T.zs.length c'] 27)).alloc (.cells #[.int .i64 k] 3) = w5 at S5 z5 ⊢
      clear S4
      obtain ⟨q0, q1, q2, _⟩ := facts3 (S5.cells 1 rfl)
      obtain ⟨r0, _⟩ := facts1 (S5.cells 0 rfl)
      have HC := Lib.hid (CollectW_any 148 #[.pointer (some ⟨w4.heap.size + 1, 0, none⟩), .pointer (some ⟨w4.heap.size, 0, none⟩)] g 256 (fun xs W' => xs = (shiftZ T T.zs k).1 ∧ OwnInts W' g (some ⟨g, 0, none⟩) (shiftZ T T.zs k).2) w5 (by omega) (by omega)
        (fun s A A' h e1 e2 => ⟨h.1, rowOwn_block h.2 e1 e2⟩) (enters_of Tryz.func148 (by kernel_rfl) rfl)
        (shifts_writes 8 (by omega) (w4.heap.size + 1) w4.heap.size g w5.heap.size k c' T hlt HH.out w5 r0 q0 q1 q2 (S5.owns 2 rfl) (by omega) (by omega) (by omega) (by omega) (by omega) (Nat.le_refl _)))
      clear q0 q1 q2 r0
      go_wp2_with fail
      refine HC.out.mono ?_
      rintro e w6 ⟨a6, c6, xs, rfl, ho6, ⟨rfl, ho⟩, hg6⟩
      have S6 := (S5.markAt (a := some ⟨g, 0, none⟩) hg6 ho 2 rfl (by simp [Far, It.box, It.own, It.read] <;> omega) (by omega)).own ho6
      have z6 := hg6.size
      clear S5 ho6 ho hg6 HC
      obtain ⟨x0, x1, x2, x3, x4, x5, xz⟩ := facts3 (S6.cells 5 rfl)
      obtain ⟨y0, y1, y2, y3, y4, y5, yz⟩ := facts3 (S6.cells 4 rfl)
      go_wp2
      have S7 := (S6.turn (l' := [It.own w5.heap.size w6.heap.size a6 (shiftZ T T.zs k).1, It.own g (g + 1) (some ⟨g, 0, none⟩) (shiftZ T T.zs k).2]) fun i hi => by
        simp only [List.mem_cons, List.not_mem_nil, or_false] at hi
        rcases hi with rfl | rfl <;> simp).set3Far (b := w.heap.size + 1) (by simp [Far, It.box, It.own, It.read] <;> omega) (by omega) (.int .i64 T.t) (.int .i64 T.p) (.slice (some ⟨g, 0, none⟩) T.zs.length c')
      refine bodyPost_ret (v := .tuple #[tabV (tab T (shiftZ T T.zs k).2) (some ⟨g, 0, none⟩) c', .slice a6 (shiftZ T T.zs k).1.length c6, .bool true]) (by simp [results, Tryz.results82, go_sem, tab, HZL.out, x0, x1, x2, x3, x4, x5, y0, y1, y2, y3, y4, y5]) rfl ?_
      obtain ⟨E1, E2, E3⟩ := E.out
      unfold ShiftRes
      rw [E1, E2, E3]
      exact ⟨_, c', a6, c6, rfl, (S7.owns 1 rfl).mono (by omega), (S7.owns 0 rfl).mono (by omega), S7.old⟩
  · have d : decide (0 ≤ pl) = false := decide_eq_false hp
    have E : Hid (shiftOk T key = false) := Lib.hid (by simp only [shiftOk, hpl, d]; rfl)
    go_enter Tryz.func82, Tryz.ntmps82
    go_wp2_with fail
    refine (FindKey_any T a c key _ hx (by exact S0.reads 2 rfl) L0.out).mono ?_
    rw [hpl, d]
    rintro e w1 ⟨rfl, hb⟩
    have S1 := S0.below hb
    clear S0 hb
    obtain ⟨x0, x1, x2, x3, x4, x5, xz⟩ := facts3 (S1.cells 0 rfl)
    go_wp2
    refine bodyPost_ret (v := .tuple #[tbl 0 0 none 0 0, .slice none 0 0, .bool false]) (by simp [results, Tryz.results82, go_sem, x0, x1, x2, x3, x4, x5]) rfl (shiftRes_no E.out ?_)
    exact set3 S1.old (by omega) _ _ _

set_option maxHeartbeats 2000000 in
theorem DropShift_any (T : Tab) (a : Option Addr) (c : Nat) (key : Int) (w : World) (hx : T.zs.length ≤ 9223372036854775807) (h1 : IntsAt w a T.zs) (hL : Laid w) :
    Calls Tryz.prog 32 #[tabV T a c, .int .i64 key] w (TabRes (shiftT T key) (shiftOk T key) w) := by
  have S0 := (((St.start w).read h1).alloc #[.int .i64 T.t, .int .i64 T.p, .slice a T.zs.length c] 27).alloc #[.int .i64 0, .int .i64 0, .slice none 0 0] 27
  rw [World.size_alloc] at S0
  have HO := Lib.hid (shiftOut_any T a c key _ hx (S0.reads 2 rfl) (hL.below S0.old hL.pos))
  unfold ShiftRes at HO
  generalize shiftT T key = U at HO ⊢
  generalize shiftL T key = xs at HO
  generalize shiftOk T key = ok at HO ⊢
  go_enter Tryz.func32, Tryz.ntmps32
  go_wp2_with fail
  refine HO.out.mono ?_
  rintro e w1 ⟨a1, c1, a2, c2, rfl, ho1, ho2, hb⟩
  have S1 := (S0.below hb).own ho1
  have z1 := hb.size
  simp only [World.size_alloc] at z1
  clear S0 hb ho1 ho2 HO
  have S2 := S1.alloc #[.int .i64 U.t, .int .i64 U.p, .slice a1 U.zs.length c1] 27
  obtain ⟨x0, x1, x2, x3, x4, x5, xz⟩ := facts3 (S2.cells 2 rfl)
  obtain ⟨y0, y1, y2, y3, y4, y5, yz⟩ := facts3 (S2.cells 0 rfl)
  go_wp2
  have S3 := (S2.turn (l' := [It.own (w.heap.size + 1 + 1) w1.heap.size a1 U.zs]) fun i hi => by simp at hi; subst hi; simp).set3Far (b := w.heap.size + 1) ⟨.inr (Nat.le_refl _), trivial⟩ (by omega) (.int .i64 U.t) (.int .i64 U.p) (.slice a1 U.zs.length c1)
  refine bodyPost_ret (v := .tuple #[tabV U a1 c1, .bool ok]) (by simp [results, Tryz.results32, go_sem, x0, x1, x2, x3, x4, x5, y0, y1, y2]) rfl ?_
  exact ⟨a1, c1, rfl, (S3.owns 0 rfl).mono (by omega), S3.old⟩

end Go.Proofs.YtpncpeokdcolpaaGreatDoor
end

section
namespace Go.Proofs.YtpncpeokdcolpaaGreatDoor
open Go.RowKit

theorem dst_int {n h s : Nat} (hh : h < n) (hs : s < n) : ((s : Int) - h) % (n : Int) = (dst n h s : Nat) := by
  rcases dst_cases n h s with ⟨c, e⟩ | ⟨c, e⟩
  · rw [Int.emod_eq_of_lt (by omega) (by omega)]; omega
  · rw [← Int.add_emod_right, Int.emod_eq_of_lt (by omega) (by omega)]; omega
theorem next_int {n k : Nat} (hk : k < n) : ((k : Int) + 1).tmod (n : Int) = (fwd n k 1 : Nat) := by
  rw [Int.tmod_eq_emod_of_nonneg (by omega)]
  rcases fwd_cases n k 1 with ⟨c, e⟩ | ⟨c, e⟩
  · rw [Int.emod_eq_of_lt (by omega) (by omega)]; omega
  · rw [show ((k : Int) + 1) = n by omega, Int.emod_self]; omega
theorem next_int' {n k : Nat} (hk : k < n) : ((k : Int) + 1) % (n : Int) = (fwd n k 1 : Nat) := by
  rw [← next_int hk, Int.tmod_eq_emod_of_nonneg (by omega)]
/-- How far a slot lies behind the hole; the hole itself lies all around behind it. -/
def behN (n h k : Nat) : Nat := if k = h then n else dst n h k
theorem behN_fwd {n h d : Nat} (hh : h < n) (h1 : 1 ≤ d) (h2 : d ≤ n) : behN n h (fwd n h d) = d := by
  unfold behN
  split
  · rename_i e
    rcases fwd_cases n h d with ⟨c, e2⟩ | ⟨c, e2⟩ <;> omega
  · rename_i e
    by_cases hd : d = n
    · subst hd
      rcases fwd_cases d h d with ⟨c, e2⟩ | ⟨c, e2⟩ <;> omega
    · exact dst_fwd hh (by omega)
theorem next_fwd {n h d : Nat} (hh : h < n) (hd : d < n) : fwd n (fwd n h d) 1 = fwd n h (d + 1) := by
  rcases fwd_cases n h d with ⟨c1, e1⟩ | ⟨c1, e1⟩ <;> rcases fwd_cases n h (d + 1) with ⟨c2, e2⟩ | ⟨c2, e2⟩ <;> rcases fwd_cases n (fwd n h d) 1 with ⟨c3, e3⟩ | ⟨c3, e3⟩ <;> omega

/-- What l5Drop answers: the slots behind the machine, and the keys that are shifted. -/
def DropRes (T : Tab) (k : Nat) (w : World) (e : Ending) (w' : World) : Prop :=
  ∃ a1 c1 a2 c2, e = .returned (.tuple #[.agg #[.int .i64 T.t, .int .i64 T.p, .slice a1 T.zs.length c1], .slice a2 (shiftZ T T.zs k).1.length c2]) ∧ OwnInts w' w.heap.size a1 (shiftZ T T.zs k).2 ∧ OwnInts w' w.heap.size a2 (shiftZ T T.zs k).1 ∧ Below w.heap.size w w'

set_option maxHeartbeats 4000000 in
set_option maxRecDepth 100000 in
theorem l5Drop_any (T : Tab) (a : Option Addr) (c k : Nat) (w : World) (hk : k < T.zs.length) (hv : validB T = true) (hH : Hole T (T.zs.set k (-1)) k 1) (h1 : IntsAt w a T.zs) :
    Calls Tryz.prog 85 #[tabV T a c, .int .i64 k] w (DropRes T k w) := by
  obtain ⟨i0, hi, hz0, hz1, hz2⟩ := info_parts Tryz.info3
  have HI := Lib.hid hi; have HZ0 := Lib.hid hz0; have HZ1 := Lib.hid hz1; have HZ2 := Lib.hid hz2
  clear hi hz0 hz1 hz2
  have hn := (valid_facts hv).1
  have HL := Lib.hid (shiftR_len hH)
  have HH0 := Lib.hid hH
  clear hH
  have S0 := (((St.start w).read h1).alloc #[.int .i64 T.t, .int .i64 T.p, .slice a T.zs.length c] 27).alloc #[.int .i64 0, .int .i64 0, .slice none 0 0] 27
  rw [World.size_alloc] at S0
  go_enter Tryz.func85, Tryz.ntmps85
  go_wp2_with fail
  refine (l1Copy_any T a c _ hn.1 (by omega) (by exact S0.reads 2 rfl)).mono ?_
  rintro e w1 ⟨g, c', rfl, ho, hb⟩
  have hg := ho.1 _ rfl
  simp only [World.size_alloc] at hg
  have S1 := ((S0.below hb).add (It.own g (g + 1) (some ⟨g, 0, none⟩) T.zs) (by show g + 1 ≤ w1.heap.size; omega) ⟨⟨fun p hp => by cases hp; exact ⟨Nat.le_refl _, hg.2⟩, ho.2⟩, fun p hp => by cases hp; exact Nat.lt_succ_self _⟩).turn (l' := [It.own g (g + 1) (some ⟨g, 0, none⟩) T.zs, It.box (w.heap.size + 1) #[.int .i64 0, .int .i64 0, .slice none 0 0] 27]) fun i hi => by
    simp only [List.mem_cons, List.not_mem_nil, or_false] at hi
    rcases hi with rfl | rfl <;> simp
  clear S0 hb ho
  obtain ⟨qk, fk⟩ := rowOwn_at (S1.owns 0 rfl) hk
  have k0 : (0 : Int) ≤ (k : Int) := by omega
  have k1 : (k : Int) < (T.zs.length : Int) := by omega
  have S1' := S1.storeRow 0 k hk rfl (by simp [Far, It.box, It.own] <;> omega) (by omega) (-1)
  have hrs := row_start ((w1.setCell ⟨g, k, none⟩ (.int .i64 (-1))).alloc (.cells #[.int .i64 T.t, .int .i64 T.p, .slice (some ⟨g, 0, none⟩) T.zs.length c'] 27))
  have zS : (w1.setCell ⟨g, k, none⟩ (.int .i64 (-1))).heap.size = w1.heap.size := by simp [World.setCell]
  have S3 := ((S1'.alloc #[.int .i64 T.t, .int .i64 T.p, .slice (some ⟨g, 0, none⟩) T.zs.length c'] 27).below ((Below.refl _ _).alloc (Nat.le_refl _) (.cells #[] 3))).add (It.row (w1.heap.size + 1) (w1.heap.size + 1 + 1) (.slice (some ⟨w1.heap.size + 1, 0, none⟩) 0 0) []) (by simp [It.row, zS]) ⟨by simpa [zS] using hrs, fun k e => by cases e; simp⟩
  rw [zS] at S3
  clear S1' hrs zS
  obtain ⟨x0, x1, x2, x3, x4, x5, xz⟩ := facts3 ((S1.alloc #[.int .i64 T.t, .int .i64 T.p, .slice (some ⟨g, 0, none⟩) T.zs.length c'] 27).cells 0 rfl)
  have hn1 : ((T.zs.length : Int) == 0) = false := beq_eq_false_iff_ne.2 (by omega)
  go_wp2_with fail
  clear x0 x1 x2 x3 x4 x5 xz qk fk S1
  rw [next_int' hk]
  generalize ((w1.setCell ⟨g, k, none⟩ (.int .i64 (-1))).alloc (.cells #[.int .i64 T.t, .int .i64 T.p, .slice (some ⟨g, 0, none⟩) T.zs.length c'] 27)).alloc (.cells #[] 3) = w4 at S3 ⊢
  go_loopw [7, 9, 10] (fun v h kk wr => ∃ (zs : List Int) (hole d : Nat) (pre : List Int) (hi' : Nat), Hid (Hole T zs hole d) ∧ h = .int .i64 hole ∧ kk = .int .i64 (fwd T.zs.length hole d : Nat) ∧
      Hid (pre ++ (shiftR T zs hole d).1 = (shiftZ T T.zs k).1 ∧ (shiftR T zs hole d).2 = (shiftZ T T.zs k).2) ∧
      St w wr [It.row (w1.heap.size + 1) hi' v pre, It.box w1.heap.size #[.int .i64 T.t, .int .i64 T.p, .slice (some ⟨g, 0, none⟩) T.zs.length c'] 27, It.own g (g + 1) (some ⟨g, 0, none⟩) zs, It.box (w.heap.size + 1) #[.int .i64 0, .int .i64 0, .slice none 0 0] 27])
    (fun _ h kk wr => meas T (readInts wr g T.zs.length) (behN T.zs.length (intOf h).toNat (intOf kk).toNat))
  case atStart => exact ⟨T.zs.set k (-1), k, 1, [], _, HH0, rfl, rfl, Lib.hid ⟨rfl, rfl⟩, S3⟩
  case round =>
    obtain ⟨zs, hole, d, pre, hi', HH, rfl, rfl, HP, Sr⟩ := hrel
    clear S3
    have hl := HH.out.lt
    have hd1 := HH.out.d1
    have hd2 := HH.out.d2
    have hk' := HH.out.klt
    have hzl := HH.out.len
    have HB := Lib.hid (behN_fwd hl hd1 hd2)
    obtain ⟨q, f⟩ := rowOwn_at (Sr.owns 2 rfl) (i := fwd T.zs.length hole d) (by rw [hzl]; exact hk')
    obtain ⟨qh, fh⟩ := rowOwn_at (Sr.owns 2 rfl) (i := hole) (by rw [hzl]; exact hl)
    obtain ⟨k', hke⟩ : ∃ k', fwd T.zs.length hole d = k' := ⟨_, rfl⟩
    have HKE := Lib.hid hke
    rw [hke] at hk' q f HB ⊢
    obtain ⟨x, hx⟩ : ∃ x, nth zs k' = x := ⟨_, rfl⟩
    have HX := Lib.hid hx
    rw [hx] at q
    clear hke hx
    have kk0 : (0 : Int) ≤ (k' : Int) := by omega
    have kk1 : (k' : Int) < (T.zs.length : Int) := by omega
    have j0 : (0 : Int) ≤ (hole : Int) := by omega
    have j1 : (hole : Int) < (T.zs.length : Int) := by omega
    obtain ⟨x0, x1, x2, x3, x4, x5, xz⟩ := facts3 (Sr.cells 1 rfl)
    by_cases hx1 : x = -1
    · subst hx1
      have HE := Lib.hid (shift_stop (T := T) (zs := zs) (hole := hole) (d := d) (by rw [HKE.out]; exact HX.out))
      obtain ⟨y0, y1, y2, y3, y4, y5, yz⟩ := facts3 (Sr.cells 3 rfl)
      obtain ⟨a5, c5, rfl⟩ := ownsRow_slice (Sr.rows 0 rfl)
      have O5 := Lib.hid (rowInts (Sr.rows 0 rfl))
      go_wp2
      have S7 := (Sr.turn (l' := [It.row (w1.heap.size + 1) hi' (.slice a5 pre.length c5) pre, It.own g (g + 1) (some ⟨g, 0, none⟩) zs]) fun i hi => by
        simp only [List.mem_cons, List.not_mem_nil, or_false] at hi
        rcases hi with rfl | rfl <;> simp).set3Far (b := w.heap.size + 1) (by simp [Far, It.box, It.own, It.row] <;> omega) (by omega) (.int .i64 T.t) (.int .i64 T.p) (.slice (some ⟨g, 0, none⟩) T.zs.length c')
      refine bodyPost_ret (v := .tuple #[.agg #[.int .i64 T.t, .int .i64 T.p, .slice (some ⟨g, 0, none⟩) T.zs.length c'], .slice a5 pre.length c5]) (by simp [results, Tryz.results85, go_sem, x0, x1, x2, y0, y1, y2, y3, y4, y5]) rfl ?_
      have hE := HE.out
      obtain ⟨hP1, hP2⟩ := HP.out
      rw [hE] at hP1 hP2
      simp only [List.append_nil] at hP1
      unfold DropRes
      rw [← hP1, ← hP2]
      exact ⟨_, c', a5, c5, rfl, (S7.owns 1 rfl).mono (by omega), (rowInts (S7.rows 0 rfl)).mono (by omega), S7.old⟩
    · have hxb : (x == -1) = false := beq_eq_false_iff_ne.2 hx1
      have hXF : nth zs (fwd T.zs.length hole d) ≠ -1 := by rw [HKE.out, HX.out]; exact hx1
      obtain ⟨f1, f2, f3, f4⟩ := HH.out.full hXF
      rw [HKE.out] at f2 f3 f4
      rw [HX.out] at f3 f4
      have hv' := HH.out.val
      have hls : (tab T zs).zs.length = T.zs.length := hzl
      have hhm := homeN_lt hv' x
      rw [hls] at hhm
      have hhe := homeN_eq hv' x
      have eT : tabV (tab T zs) (some ⟨g, 0, none⟩) c' = .agg #[.int .i64 T.t, .int .i64 T.p, .slice (some ⟨g, 0, none⟩) T.zs.length c'] := by
        show Value.agg #[_, _, .slice _ zs.length c'] = _
        rw [hzl]; rfl
      have HCH : Hid (∀ W, Calls Tryz.prog 40 #[.agg #[.int .i64 T.t, .int .i64 T.p, .slice (some ⟨g, 0, none⟩) T.zs.length c'], .int .i64 x] W fun e W' => e = .returned (.int .i64 (homeN (tab T zs) x : Nat)) ∧ Below W.heap.size W W') := Lib.hid fun W => by
        have h := l1Home_any (tab T zs) (some ⟨g, 0, none⟩) c' x W hv' f3 f4
        rw [eT, ← hhe] at h
        exact h
      have HCA : Hid (∀ (m : Nat) W, m < T.zs.length → Calls Tryz.prog 39 #[.agg #[.int .i64 T.t, .int .i64 T.p, .slice (some ⟨g, 0, none⟩) T.zs.length c'], .int .i64 m, .int .i64 k'] W fun e W' => e = .returned (.int .i64 (dst T.zs.length m k' : Nat)) ∧ Below W.heap.size W W') := Lib.hid fun m W hm => by
        have h := l1Away_any (tab T zs) (some ⟨g, 0, none⟩) c' (m : Int) (k' : Int) W (by rw [hls]; exact hn.1) (by rw [hls]; exact hn.2) (by omega) (by rw [hls]; omega) (by omega) (by rw [hls]; omega)
        rw [eT, hls, dst_int hm hk'] at h
        exact h
      have HAW : Hid (awN T zs k' = dst T.zs.length (homeN (tab T zs) x) k') := Lib.hid (by unfold awN; rw [HX.out, ← tab_home (T := T) hzl])
      have HDD : Hid (dst T.zs.length hole k' = d) := Lib.hid (by rw [← HKE.out]; exact dst_fwd hl f1)
      have HNF : Hid (((k' : Int) + 1) % (T.zs.length : Int) = (fwd T.zs.length hole (d + 1) : Nat)) := Lib.hid ((next_int' hk').trans (by rw [← next_fwd hl f1, HKE.out]))
      have HB2 := Lib.hid (behN_fwd hl (d := d + 1) (by omega) (by omega))
      generalize homeN (tab T zs) x = hm at hhm HCH HAW
      clear hXF hhe
      have SD := Sr.drew
      go_wp2_with fail
      go_region_held3 (fun w' => w'.cell? ⟨w1.heap.size, 0, none⟩ = some (.int .i64 T.t) ∧ w'.cell? ⟨w1.heap.size, 1, none⟩ = some (.int .i64 T.p) ∧ w'.cell? ⟨w1.heap.size, 2, none⟩ = some (.slice (some ⟨g, 0, none⟩) T.zs.length c'))
        (first
          | exact ⟨x0, x1, x2⟩
          | exact SD.three 1 rfl)
        (first
          | (go_at_call 40; refine (HCH.out _).mono ?_; rintro e w5 ⟨rfl, hb⟩; replace SD := SD.below hb; clear hb)
          | (go_at_call 39; refine (HCA.out _ _ (by assumption)).mono ?_; rintro e w5 ⟨rfl, hb⟩; replace SD := SD.below hb; clear hb))
      have HRD := Lib.hid (read_own (Sr.owns 2 rfl) hzl)
      clear Sr x0 x1 x2 x3 x4 x5 xz q f qh fh
      by_cases ha : dst T.zs.length hm k' < d
      · have t1 : decide ((dst T.zs.length hole k' : Int) ≤ (dst T.zs.length hm k' : Int)) = false := by rw [HDD.out]; simp; omega
        have t2 : ¬ (dst T.zs.length hole k' ≤ dst T.zs.length hm k') := by rw [HDD.out]; omega
        have HE := Lib.hid (shift_pass (T := T) (zs := zs) (hole := hole) (d := d) HH.out (by rw [HKE.out, HX.out]; exact hx1) (by rw [HKE.out, HAW.out]; exact ha))
        have HM := Lib.hid (meas_pass HH.out (by rw [HKE.out, HX.out]; exact hx1))
        have HN := Lib.hid (HH.out.pass (by rw [HKE.out, HX.out]; exact hx1))
        go_wp2
        go_roundw
        case rel => exact ⟨zs, hole, d + 1, pre, hi', HN, rfl, by rw [HNF.out], Lib.hid (by rw [← HE.out]; exact HP.out), SD⟩
        case measure =>
          rw [HNF.out, read_own (SD.owns 2 rfl) hzl]
          simp only [intOf, Int.toNat_natCast]
          rw [HB2.out, HRD.out, HB.out]
          exact HM.out
      · have t1 : decide ((dst T.zs.length hole k' : Int) ≤ (dst T.zs.length hm k' : Int)) = true := by rw [HDD.out]; simp; omega
        have t2 : dst T.zs.length hole k' ≤ dst T.zs.length hm k' := by rw [HDD.out]; omega
        have HE := Lib.hid (shift_move (T := T) (zs := zs) (hole := hole) (d := d) HH.out (by rw [HKE.out, HX.out]; exact hx1) (by rw [HKE.out, HAW.out]; exact ha))
        have HM := Lib.hid (meas_move HH.out (by rw [HKE.out, HX.out]; exact hx1) (by rw [HKE.out, HAW.out]; exact ha))
        have HN := Lib.hid (HH.out.move (by rw [HKE.out, HX.out]; exact hx1))
        have hmv : Hid (moved T zs hole d = (zs.set hole x).set k' (-1)) := Lib.hid (by unfold moved; rw [HKE.out, HX.out])
        have hpl : pre.length < 256 := by
          have h1 := HP.out.1
          rw [HE.out] at h1
          have h2 := congrArg List.length h1
          have h3 := HL.out
          simp only [List.length_append, List.length_cons] at h2
          have : (shiftZ T T.zs k).1.length ≤ 256 := h3
          omega
        obtain ⟨x0, x1, x2, x3, x4, x5, xz⟩ := facts3 (SD.cells 1 rfl)
        obtain ⟨qb, fb⟩ := rowOwn_at (SD.owns 2 rfl) (i := hole) (by rw [hzl]; exact hl)
        have SE := SD.storeRow 2 hole (by rw [hzl]; exact hl) rfl (by simp [Far, It.box, It.own, It.row] <;> omega) (by omega) x
        obtain ⟨qa, fa⟩ := rowOwn_at (SE.owns 2 rfl) (i := k') (by rw [List.length_set, hzl]; exact hk')
        obtain ⟨v0, v1, v2, v3, v4, v5, vz⟩ := facts3 (SE.cells 1 rfl)
        have SF := SE.storeRow 2 k' (by rw [List.length_set, hzl]; exact hk') rfl (by simp [Far, It.box, It.own, It.row] <;> omega) (by omega) (-1)
        have SG : St w ((w5.setCell ⟨g, hole, none⟩ (.int .i64 x)).setCell ⟨g, k', none⟩ (.int .i64 (-1))) [It.row (w1.heap.size + 1) hi' u7 pre, It.box w1.heap.size #[.int .i64 T.t, .int .i64 T.p, .slice (some ⟨g, 0, none⟩) T.zs.length c'] 27, It.own g (g + 1) (some ⟨g, 0, none⟩) ((zs.set hole x).set k' (-1)), It.box (w.heap.size + 1) #[.int .i64 0, .int .i64 0, .slice none 0 0] 27] := SF
        clear SD SE SF
        have FR := fun v => (show Far (It.row (w1.heap.size + 1) hi' v pre) [It.box w1.heap.size #[.int .i64 T.t, .int .i64 T.p, .slice (some ⟨g, 0, none⟩) T.zs.length c'] 27, It.own g (g + 1) (some ⟨g, 0, none⟩) ((zs.set hole x).set k' (-1)), It.box (w.heap.size + 1) #[.int .i64 0, .int .i64 0, .slice none 0 0] 27] from by simp [Far, It.box, It.own, It.row]; omega)
        go_wp2_with (at_builtin; generalize hW : (w5.setCell ⟨g, hole, none⟩ (.int .i64 x)).setCell ⟨g, k', none⟩ (.int .i64 (-1)) = w6 at SG ⊢; have hz : w6.heap.size = w5.heap.size := (by rw [← hW]; simp [World.setCell]); rw [← hz]; clear hz hW; refine wpList_append_own _ rfl _ _ 22 rfl (w1.heap.size + 1) 3 i0 (.int .i64 0) 1 8 Tryz.underlying22 HI.out HZ0.out HZ1.out HZ2.out rfl (by decide) _ _ _ rfl ((SG.rows 0 rfl).alloc _) ⟨w6.heap.size, 0, none⟩ 1 1 [.int .i64 x] rfl rfl (cell_one_new _ _ _) (by simp [Value.oneCell']) (by unfold maxLen; omega) (by omega) (by have : w1.heap.size + 1 ≤ w6.heap.size := SG.sz 1 rfl; simp; omega) ?_; intro v' w7 hown7 hgrow7 _; obtain ⟨g', cap', rfl⟩ := ownsRow_more hown7; replace SG := SG.append (x := x) (FR _) (by omega) _ hown7 hgrow7; clear hown7 hgrow7)
        have HS : Hid (pre ++ [x] ++ (shiftR T (moved T zs hole d) k' 1).1 = (shiftZ T T.zs k).1 ∧ (shiftR T (moved T zs hole d) k' 1).2 = (shiftZ T T.zs k).2) := Lib.hid (by
          have h1 := HP.out
          rw [HE.out, HKE.out, HX.out] at h1
          refine ⟨?_, h1.2⟩
          rw [← h1.1]; simp)
        rw [← hmv.out] at SG
        go_roundw
        case rel => exact ⟨moved T zs hole d, k', 1, pre ++ [x], _, by rw [← HKE.out]; exact HN, rfl, by rw [next_int' hk'], HS, SG⟩
        case measure =>
          rw [next_int' hk', read_own (SG.owns 2 rfl) (by rw [moved_len]; exact hzl)]
          simp only [intOf, Int.toNat_natCast]
          rw [behN_fwd hk' (Nat.le_refl _) (by omega), HRD.out, HB.out]
          exact HM.out

set_option maxHeartbeats 4000000 in
theorem specDropShift_any (T : Tab) (a : Option Addr) (c : Nat) (key : Int) (w : World) (hx : T.zs.length ≤ 9223372036854775807) (h1 : IntsAt w a T.zs) :
    Calls Tryz.prog 33 #[tabV T a c, .int .i64 key] w (TabRes (shiftT T key) (shiftOk T key) w) := by
  have S0 := (((St.start w).read h1).alloc #[.int .i64 T.t, .int .i64 T.p, .slice a T.zs.length c] 27).alloc #[.int .i64 0, .int .i64 0, .slice none 0 0] 27
  rw [World.size_alloc] at S0
  obtain ⟨pl, hpl⟩ : ∃ p, findOf T key = p := ⟨_, rfl⟩
  have HNO : Hid (shiftOk T key = false → ∀ w', Below w.heap.size w w' → TabRes (shiftT T key) (shiftOk T key) w (.returned (.tuple #[tbl 0 0 none 0 0, .bool false])) w') := Lib.hid fun h w' hb => by
    rw [h, (shiftT_no h).1]; exact ⟨none, 0, rfl, OwnInts.nil _ _, hb⟩
  by_cases hp : 0 ≤ pl
  · have d : decide (0 ≤ pl) = true := decide_eq_true hp
    cases hs : plainB T
    · have E : Hid (shiftOk T key = false) := Lib.hid (by simp [shiftOk, hs])
      go_enter Tryz.func33, Tryz.ntmps33
      go_wp2_with fail
      refine (specFindKey_any T a c key _ hx (by exact S0.reads 2 rfl)).mono ?_
      rw [hpl, d]
      rintro e w1 ⟨rfl, hb⟩
      have S1 := S0.below hb
      clear S0 hb
      obtain ⟨x0, x1, x2, x3, x4, x5, xz⟩ := facts3 (S1.cells 1 rfl)
      go_wp2_with fail
      refine (l5Plain_any T a c _ hx (by exact S1.reads 2 rfl)).mono ?_
      rw [hs]
      rintro e w2 ⟨rfl, hb⟩
      have S2 := S1.below hb
      clear S1 hb x0 x1 x2 x3 x4 x5 xz
      obtain ⟨x0, x1, x2, x3, x4, x5, xz⟩ := facts3 (S2.cells 0 rfl)
      go_wp2
      refine bodyPost_ret (v := .tuple #[tbl 0 0 none 0 0, .bool false]) (by simp [results, Tryz.results33, go_sem, x0, x1, x2, x3, x4, x5]) rfl (HNO.out E.out _ ?_)
      exact set3 S2.old (by omega) _ _ _
    · have ok : shiftOk T key = true := by simp [shiftOk, hs, hpl, hp]
      obtain ⟨k, D⟩ := shift_says ok
      obtain rfl : pl = k := hpl.symm.trans D.find
      have hlt := D.lt
      have E : Hid (shiftOk T key = true ∧ shiftT T key = tab T (shiftZ T T.zs k).2) := Lib.hid ⟨ok, (shiftT_yes ok D.find).1⟩
      have HH := Lib.hid D.hole
      have HV := Lib.hid D.val
      have HZL := Lib.hid D.left.len
      clear ok D
      go_enter Tryz.func33, Tryz.ntmps33
      go_wp2_with fail
      refine (specFindKey_any T a c key _ hx (by exact S0.reads 2 rfl)).mono ?_
      rw [hpl, d]
      rintro e w1 ⟨rfl, hb⟩
      have S1 := S0.below hb
      clear S0 hb
      obtain ⟨x0, x1, x2, x3, x4, x5, xz⟩ := facts3 (S1.cells 1 rfl)
      go_wp2_with fail
      refine (l5Plain_any T a c _ hx (by exact S1.reads 2 rfl)).mono ?_
      rw [hs]
      rintro e w2 ⟨rfl, hb⟩
      have S2 := S1.below hb
      have z2 : w.heap.size + 1 < w2.heap.size := S2.sz 0 rfl
      clear S1 hb x0 x1 x2 x3 x4 x5 xz
      obtain ⟨x0, x1, x2, x3, x4, x5, xz⟩ := facts3 (S2.cells 1 rfl)
      go_wp2_with fail
      refine (l5Drop_any T a c k _ hlt HV.out HH.out (by exact S2.reads 2 rfl)).mono ?_
      rintro e w3 ⟨a3, c3, a4, c4, rfl, ho, ho2, hb⟩
      have S3 := ((S2.below hb).own ho).alloc #[.int .i64 T.t, .int .i64 T.p, .slice a3 T.zs.length c3] 27
      have z3 := hb.size
      clear S2 hb ho ho2 x0 x1 x2 x3 x4 x5 xz
      obtain ⟨x0, x1, x2, x3, x4, x5, xz⟩ := facts3 (S3.cells 2 rfl)
      obtain ⟨y0, y1, y2, y3, y4, y5, yz⟩ := facts3 (S3.cells 0 rfl)
      go_wp2
      have S4 := (S3.turn (l' := [It.own w2.heap.size w3.heap.size a3 (shiftZ T T.zs k).2]) fun i hi => by simp at hi; subst hi; simp).set3Far (b := w.heap.size + 1) ⟨.inr (by show w.heap.size + 1 + 1 ≤ w2.heap.size; omega), trivial⟩ (by omega) (.int .i64 T.t) (.int .i64 T.p) (.slice a3 T.zs.length c3)
      refine bodyPost_ret (v := .tuple #[tabV (tab T (shiftZ T T.zs k).2) a3 c3, .bool true]) (by simp [results, Tryz.results33, go_sem, tab, HZL.out, x0, x1, x2, x3, x4, x5, y0, y1, y2]) rfl ?_
      rw [E.out.1, E.out.2]
      exact ⟨a3, c3, rfl, (S4.owns 0 rfl).mono (by omega), S4.old⟩
  · have d : decide (0 ≤ pl) = false := decide_eq_false hp
    have E : Hid (shiftOk T key = false) := Lib.hid (by simp only [shiftOk, hpl, d]; rfl)
    go_enter Tryz.func33, Tryz.ntmps33
    go_wp2_with fail
    refine (specFindKey_any T a c key _ hx (by exact S0.reads 2 rfl)).mono ?_
    rw [hpl, d]
    rintro e w1 ⟨rfl, hb⟩
    have S1 := S0.below hb
    clear S0 hb
    obtain ⟨x0, x1, x2, x3, x4, x5, xz⟩ := facts3 (S1.cells 0 rfl)
    go_wp2
    refine bodyPost_ret (v := .tuple #[tbl 0 0 none 0 0, .bool false]) (by simp [results, Tryz.results33, go_sem, x0, x1, x2, x3, x4, x5]) rfl (HNO.out E.out _ ?_)
    exact set3 S1.old (by omega) _ _ _

end Go.Proofs.YtpncpeokdcolpaaGreatDoor
end

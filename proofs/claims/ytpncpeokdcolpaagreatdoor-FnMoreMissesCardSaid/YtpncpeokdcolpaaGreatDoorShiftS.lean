/-
  DropShift and MovesBy of the model.
-/
import Derived.Test.YtpncpeokdcolpaaGreatDoorShelf
import Derived.Test.YtpncpeokdcolpaaGreatDoorShiftI
import Derived.Test.YtpncpeokdcolpaaGreatDoorAway
import Derived.Test.YtpncpeokdcolpaaGreatDoorLost
namespace Go.Proofs.YtpncpeokdcolpaaGreatDoor
open Go.RowKit

theorem dst_int {n h s : Nat} (hh : h < n) (hs : s < n) : ((s : Int) - h) % (n : Int) = (dst n h s : Nat) := by
  rcases dst_cases n h s with ⟨c, e⟩ | ⟨c, e⟩
  · rw [Int.emod_eq_of_lt (by omega) (by omega)]; omega
  · rw [← Int.add_emod_right, Int.emod_eq_of_lt (by omega) (by omega)]; omega
theorem next_int {n k : Nat} (hk : k < n) : ((k : Int) + 1).tmod (n : Int) = (fwd n k 1 : Nat) := by
  rw [Int.tmod_eq_emod_of_nonneg (by omega)]
  rcases fwd_cases n k 1 with ⟨c, e⟩ | ⟨c, e⟩
  · rw [Int.emod_eq_of_lt (by omega) (by omega)]; omega
  · rw [show ((k : Int) + 1) = n by omega, Int.emod_self]; omega
theorem next_int' {n k : Nat} (hk : k < n) : ((k : Int) + 1) % (n : Int) = (fwd n k 1 : Nat) := by
  rw [← next_int hk, Int.tmod_eq_emod_of_nonneg (by omega)]
/-- How far a slot lies behind the hole; the hole itself lies all around behind it. -/
def behN (n h k : Nat) : Nat := if k = h then n else dst n h k
theorem behN_fwd {n h d : Nat} (hh : h < n) (h1 : 1 ≤ d) (h2 : d ≤ n) : behN n h (fwd n h d) = d := by
  unfold behN
  split
  · rename_i e
    rcases fwd_cases n h d with ⟨c, e2⟩ | ⟨c, e2⟩ <;> omega
  · rename_i e
    by_cases hd : d = n
    · subst hd
      rcases fwd_cases d h d with ⟨c, e2⟩ | ⟨c, e2⟩ <;> omega
    · exact dst_fwd hh (by omega)
theorem next_fwd {n h d : Nat} (hh : h < n) (hd : d < n) : fwd n (fwd n h d) 1 = fwd n h (d + 1) := by
  rcases fwd_cases n h d with ⟨c1, e1⟩ | ⟨c1, e1⟩ <;> rcases fwd_cases n h (d + 1) with ⟨c2, e2⟩ | ⟨c2, e2⟩ <;> rcases fwd_cases n (fwd n h d) 1 with ⟨c3, e3⟩ | ⟨c3, e3⟩ <;> omega

/-- What l5Drop answers: the slots behind the machine, and the keys that are shifted. -/
def DropRes (T : Tab) (k : Nat) (w : World) (e : Ending) (w' : World) : Prop :=
  ∃ a1 c1 a2 c2, e = .returned (.tuple #[.agg #[.int .i64 T.t, .int .i64 T.p, .slice a1 T.zs.length c1], .slice a2 (shiftZ T T.zs k).1.length c2]) ∧ OwnInts w' w.heap.size a1 (shiftZ T T.zs k).2 ∧ OwnInts w' w.heap.size a2 (shiftZ T T.zs k).1 ∧ Below w.heap.size w w'

set_option maxHeartbeats 4000000 in
set_option maxRecDepth 100000 in
theorem l5Drop_any (T : Tab) (a : Option Addr) (c k : Nat) (w : World) (hk : k < T.zs.length) (hv : validB T = true) (hH : Hole T (T.zs.set k (-1)) k 1) (h1 : IntsAt w a T.zs) :
    Calls Tryz.prog 85 #[tabV T a c, .int .i64 k] w (DropRes T k w) := by
  obtain ⟨i0, hi, hz0, hz1, hz2⟩ := info_parts Tryz.info3
  have HI := Lib.hid hi; have HZ0 := Lib.hid hz0; have HZ1 := Lib.hid hz1; have HZ2 := Lib.hid hz2
  clear hi hz0 hz1 hz2
  have hn := (valid_facts hv).1
  have HL := Lib.hid (shiftR_len hH)
  have HH0 := Lib.hid hH
  clear hH
  have S0 := (((St.start w).read h1).alloc #[.int .i64 T.t, .int .i64 T.p, .slice a T.zs.length c] 27).alloc #[.int .i64 0, .int .i64 0, .slice none 0 0] 27
  rw [World.size_alloc] at S0
  go_enter Tryz.func85, Tryz.ntmps85
  go_wp2_with fail
  refine (l1Copy_any T a c _ hn.1 (by omega) (by exact S0.reads 2 rfl)).mono ?_
  rintro e w1 ⟨g, c', rfl, ho, hb⟩
  have hg := ho.1 _ rfl
  simp only [World.size_alloc] at hg
  have S1 := ((S0.below hb).add (It.own g (g + 1) (some ⟨g, 0, none⟩) T.zs) (by show g + 1 ≤ w1.heap.size; omega) ⟨⟨fun p hp => by cases hp; exact ⟨Nat.le_refl _, hg.2⟩, ho.2⟩, fun p hp => by cases hp; exact Nat.lt_succ_self _⟩).turn (l' := [It.own g (g + 1) (some ⟨g, 0, none⟩) T.zs, It.box (w.heap.size + 1) #[.int .i64 0, .int .i64 0, .slice none 0 0] 27]) fun i hi => by
    simp only [List.mem_cons, List.not_mem_nil, or_false] at hi
    rcases hi with rfl | rfl <;> simp
  clear S0 hb ho
  obtain ⟨qk, fk⟩ := rowOwn_at (S1.owns 0 rfl) hk
  have k0 : (0 : Int) ≤ (k : Int) := by omega
  have k1 : (k : Int) < (T.zs.length : Int) := by omega
  have S1' := S1.storeRow 0 k hk rfl (by simp [Far, It.box, It.own] <;> omega) (by omega) (-1)
  have hrs := row_start ((w1.setCell ⟨g, k, none⟩ (.int .i64 (-1))).alloc (.cells #[.int .i64 T.t, .int .i64 T.p, .slice (some ⟨g, 0, none⟩) T.zs.length c'] 27))
  have zS : (w1.setCell ⟨g, k, none⟩ (.int .i64 (-1))).heap.size = w1.heap.size := by simp [World.setCell]
  have S3 := ((S1'.alloc #[.int .i64 T.t, .int .i64 T.p, .slice (some ⟨g, 0, none⟩) T.zs.length c'] 27).below ((Below.refl _ _).alloc (Nat.le_refl _) (.cells #[] 3))).add (It.row (w1.heap.size + 1) (w1.heap.size + 1 + 1) (.slice (some ⟨w1.heap.size + 1, 0, none⟩) 0 0) []) (by simp [It.row, zS]) ⟨by simpa [zS] using hrs, fun k e => by cases e; simp⟩
  rw [zS] at S3
  clear S1' hrs zS
  obtain ⟨x0, x1, x2, x3, x4, x5, xz⟩ := facts3 ((S1.alloc #[.int .i64 T.t, .int .i64 T.p, .slice (some ⟨g, 0, none⟩) T.zs.length c'] 27).cells 0 rfl)
  have hn1 : ((T.zs.length : Int) == 0) = false := beq_eq_false_iff_ne.2 (by omega)
  go_wp2_with fail
  clear x0 x1 x2 x3 x4 x5 xz qk fk S1
  rw [next_int' hk]
  generalize ((w1.setCell ⟨g, k, none⟩ (.int .i64 (-1))).alloc (.cells #[.int .i64 T.t, .int .i64 T.p, .slice (some ⟨g, 0, none⟩) T.zs.length c'] 27)).alloc (.cells #[] 3) = w4 at S3 ⊢
  go_loopw [7, 9, 10] (fun v h kk wr => ∃ (zs : List Int) (hole d : Nat) (pre : List Int) (hi' : Nat), Hid (Hole T zs hole d) ∧ h = .int .i64 hole ∧ kk = .int .i64 (fwd T.zs.length hole d : Nat) ∧
      Hid (pre ++ (shiftR T zs hole d).1 = (shiftZ T T.zs k).1 ∧ (shiftR T zs hole d).2 = (shiftZ T T.zs k).2) ∧
      St w wr [It.row (w1.heap.size + 1) hi' v pre, It.box w1.heap.size #[.int .i64 T.t, .int .i64 T.p, .slice (some ⟨g, 0, none⟩) T.zs.length c'] 27, It.own g (g + 1) (some ⟨g, 0, none⟩) zs, It.box (w.heap.size + 1) #[.int .i64 0, .int .i64 0, .slice none 0 0] 27])
    (fun _ h kk wr => meas T (readInts wr g T.zs.length) (behN T.zs.length (intOf h).toNat (intOf kk).toNat))
  case atStart => exact ⟨T.zs.set k (-1), k, 1, [], _, HH0, rfl, rfl, Lib.hid ⟨rfl, rfl⟩, S3⟩
  case round =>
    obtain ⟨zs, hole, d, pre, hi', HH, rfl, rfl, HP, Sr⟩ := hrel
    clear S3
    have hl := HH.out.lt
    have hd1 := HH.out.d1
    have hd2 := HH.out.d2
    have hk' := HH.out.klt
    have hzl := HH.out.len
    have HB := Lib.hid (behN_fwd hl hd1 hd2)
    obtain ⟨q, f⟩ := rowOwn_at (Sr.owns 2 rfl) (i := fwd T.zs.length hole d) (by rw [hzl]; exact hk')
    obtain ⟨qh, fh⟩ := rowOwn_at (Sr.owns 2 rfl) (i := hole) (by rw [hzl]; exact hl)
    obtain ⟨k', hke⟩ : ∃ k', fwd T.zs.length hole d = k' := ⟨_, rfl⟩
    have HKE := Lib.hid hke
    rw [hke] at hk' q f HB ⊢
    obtain ⟨x, hx⟩ : ∃ x, nth zs k' = x := ⟨_, rfl⟩
    have HX := Lib.hid hx
    rw [hx] at q
    clear hke hx
    have kk0 : (0 : Int) ≤ (k' : Int) := by omega
    have kk1 : (k' : Int) < (T.zs.length : Int) := by omega
    have j0 : (0 : Int) ≤ (hole : Int) := by omega
    have j1 : (hole : Int) < (T.zs.length : Int) := by omega
    obtain ⟨x0, x1, x2, x3, x4, x5, xz⟩ := facts3 (Sr.cells 1 rfl)
    by_cases hx1 : x = -1
    · subst hx1
      have HE := Lib.hid (shift_stop (T := T) (zs := zs) (hole := hole) (d := d) (by rw [HKE.out]; exact HX.out))
      obtain ⟨y0, y1, y2, y3, y4, y5, yz⟩ := facts3 (Sr.cells 3 rfl)
      obtain ⟨a5, c5, rfl⟩ := ownsRow_slice (Sr.rows 0 rfl)
      have O5 := Lib.hid (rowInts (Sr.rows 0 rfl))
      go_wp2
      have S7 := (Sr.turn (l' := [It.row (w1.heap.size + 1) hi' (.slice a5 pre.length c5) pre, It.own g (g + 1) (some ⟨g, 0, none⟩) zs]) fun i hi => by
        simp only [List.mem_cons, List.not_mem_nil, or_false] at hi
        rcases hi with rfl | rfl <;> simp).set3Far (b := w.heap.size + 1) (by simp [Far, It.box, It.own, It.row] <;> omega) (by omega) (.int .i64 T.t) (.int .i64 T.p) (.slice (some ⟨g, 0, none⟩) T.zs.length c')
      refine bodyPost_ret (v := .tuple #[.agg #[.int .i64 T.t, .int .i64 T.p, .slice (some ⟨g, 0, none⟩) T.zs.length c'], .slice a5 pre.length c5]) (by simp [results, Tryz.results85, go_sem, x0, x1, x2, y0, y1, y2, y3, y4, y5]) rfl ?_
      have hE := HE.out
      obtain ⟨hP1, hP2⟩ := HP.out
      rw [hE] at hP1 hP2
      simp only [List.append_nil] at hP1
      unfold DropRes
      rw [← hP1, ← hP2]
      exact ⟨_, c', a5, c5, rfl, (S7.owns 1 rfl).mono (by omega), (rowInts (S7.rows 0 rfl)).mono (by omega), S7.old⟩
    · have hxb : (x == -1) = false := beq_eq_false_iff_ne.2 hx1
      have hXF : nth zs (fwd T.zs.length hole d) ≠ -1 := by rw [HKE.out, HX.out]; exact hx1
      obtain ⟨f1, f2, f3, f4⟩ := HH.out.full hXF
      rw [HKE.out] at f2 f3 f4
      rw [HX.out] at f3 f4
      have hv' := HH.out.val
      have hls : (tab T zs).zs.length = T.zs.length := hzl
      have hhm := homeN_lt hv' x
      rw [hls] at hhm
      have hhe := homeN_eq hv' x
      have eT : tabV (tab T zs) (some ⟨g, 0, none⟩) c' = .agg #[.int .i64 T.t, .int .i64 T.p, .slice (some ⟨g, 0, none⟩) T.zs.length c'] := by
        show Value.agg #[_, _, .slice _ zs.length c'] = _
        rw [hzl]; rfl
      have HCH : Hid (∀ W, Calls Tryz.prog 40 #[.agg #[.int .i64 T.t, .int .i64 T.p, .slice (some ⟨g, 0, none⟩) T.zs.length c'], .int .i64 x] W fun e W' => e = .returned (.int .i64 (homeN (tab T zs) x : Nat)) ∧ Below W.heap.size W W') := Lib.hid fun W => by
        have h := l1Home_any (tab T zs) (some ⟨g, 0, none⟩) c' x W hv' f3 f4
        rw [eT, ← hhe] at h
        exact h
      have HCA : Hid (∀ (m : Nat) W, m < T.zs.length → Calls Tryz.prog 39 #[.agg #[.int .i64 T.t, .int .i64 T.p, .slice (some ⟨g, 0, none⟩) T.zs.length c'], .int .i64 m, .int .i64 k'] W fun e W' => e = .returned (.int .i64 (dst T.zs.length m k' : Nat)) ∧ Below W.heap.size W W') := Lib.hid fun m W hm => by
        have h := l1Away_any (tab T zs) (some ⟨g, 0, none⟩) c' (m : Int) (k' : Int) W (by rw [hls]; exact hn.1) (by rw [hls]; exact hn.2) (by omega) (by rw [hls]; omega) (by omega) (by rw [hls]; omega)
        rw [eT, hls, dst_int hm hk'] at h
        exact h
      have HAW : Hid (awN T zs k' = dst T.zs.length (homeN (tab T zs) x) k') := Lib.hid (by unfold awN; rw [HX.out, ← tab_home (T := T) hzl])
      have HDD : Hid (dst T.zs.length hole k' = d) := Lib.hid (by rw [← HKE.out]; exact dst_fwd hl f1)
      have HNF : Hid (((k' : Int) + 1) % (T.zs.length : Int) = (fwd T.zs.length hole (d + 1) : Nat)) := Lib.hid ((next_int' hk').trans (by rw [← next_fwd hl f1, HKE.out]))
      have HB2 := Lib.hid (behN_fwd hl (d := d + 1) (by omega) (by omega))
      generalize homeN (tab T zs) x = hm at hhm HCH HAW
      clear hXF hhe
      have SD := Sr.drew
      go_wp2_with fail
      go_region_held3 (fun w' => w'.cell? ⟨w1.heap.size, 0, none⟩ = some (.int .i64 T.t) ∧ w'.cell? ⟨w1.heap.size, 1, none⟩ = some (.int .i64 T.p) ∧ w'.cell? ⟨w1.heap.size, 2, none⟩ = some (.slice (some ⟨g, 0, none⟩) T.zs.length c'))
        (first
          | exact ⟨x0, x1, x2⟩
          | exact SD.three 1 rfl)
        (first
          | (go_at_call 40; refine (HCH.out _).mono ?_; rintro e w5 ⟨rfl, hb⟩; replace SD := SD.below hb; clear hb)
          | (go_at_call 39; refine (HCA.out _ _ (by assumption)).mono ?_; rintro e w5 ⟨rfl, hb⟩; replace SD := SD.below hb; clear hb))
      have HRD := Lib.hid (read_own (Sr.owns 2 rfl) hzl)
      clear Sr x0 x1 x2 x3 x4 x5 xz q f qh fh
      by_cases ha : dst T.zs.length hm k' < d
      · have t1 : decide ((dst T.zs.length hole k' : Int) ≤ (dst T.zs.length hm k' : Int)) = false := by rw [HDD.out]; simp; omega
        have t2 : ¬ (dst T.zs.length hole k' ≤ dst T.zs.length hm k') := by rw [HDD.out]; omega
        have HE := Lib.hid (shift_pass (T := T) (zs := zs) (hole := hole) (d := d) HH.out (by rw [HKE.out, HX.out]; exact hx1) (by rw [HKE.out, HAW.out]; exact ha))
        have HM := Lib.hid (meas_pass HH.out (by rw [HKE.out, HX.out]; exact hx1))
        have HN := Lib.hid (HH.out.pass (by rw [HKE.out, HX.out]; exact hx1))
        go_wp2
        go_roundw
        case rel => exact ⟨zs, hole, d + 1, pre, hi', HN, rfl, by rw [HNF.out], Lib.hid (by rw [← HE.out]; exact HP.out), SD⟩
        case measure =>
          rw [HNF.out, read_own (SD.owns 2 rfl) hzl]
          simp only [intOf, Int.toNat_natCast]
          rw [HB2.out, HRD.out, HB.out]
          exact HM.out
      · have t1 : decide ((dst T.zs.length hole k' : Int) ≤ (dst T.zs.length hm k' : Int)) = true := by rw [HDD.out]; simp; omega
        have t2 : dst T.zs.length hole k' ≤ dst T.zs.length hm k' := by rw [HDD.out]; omega
        have HE := Lib.hid (shift_move (T := T) (zs := zs) (hole := hole) (d := d) HH.out (by rw [HKE.out, HX.out]; exact hx1) (by rw [HKE.out, HAW.out]; exact ha))
        have HM := Lib.hid (meas_move HH.out (by rw [HKE.out, HX.out]; exact hx1) (by rw [HKE.out, HAW.out]; exact ha))
        have HN := Lib.hid (HH.out.move (by rw [HKE.out, HX.out]; exact hx1))
        have hmv : Hid (moved T zs hole d = (zs.set hole x).set k' (-1)) := Lib.hid (by unfold moved; rw [HKE.out, HX.out])
        have hpl : pre.length < 256 := by
          have h1 := HP.out.1
          rw [HE.out] at h1
          have h2 := congrArg List.length h1
          have h3 := HL.out
          simp only [List.length_append, List.length_cons] at h2
          have : (shiftZ T T.zs k).1.length ≤ 256 := h3
          omega
        obtain ⟨x0, x1, x2, x3, x4, x5, xz⟩ := facts3 (SD.cells 1 rfl)
        obtain ⟨qb, fb⟩ := rowOwn_at (SD.owns 2 rfl) (i := hole) (by rw [hzl]; exact hl)
        have SE := SD.storeRow 2 hole (by rw [hzl]; exact hl) rfl (by simp [Far, It.box, It.own, It.row] <;> omega) (by omega) x
        obtain ⟨qa, fa⟩ := rowOwn_at (SE.owns 2 rfl) (i := k') (by rw [List.length_set, hzl]; exact hk')
        obtain ⟨v0, v1, v2, v3, v4, v5, vz⟩ := facts3 (SE.cells 1 rfl)
        have SF := SE.storeRow 2 k' (by rw [List.length_set, hzl]; exact hk') rfl (by simp [Far, It.box, It.own, It.row] <;> omega) (by omega) (-1)
        have SG : St w ((w5.setCell ⟨g, hole, none⟩ (.int .i64 x)).setCell ⟨g, k', none⟩ (.int .i64 (-1))) [It.row (w1.heap.size + 1) hi' u7 pre, It.box w1.heap.size #[.int .i64 T.t, .int .i64 T.p, .slice (some ⟨g, 0, none⟩) T.zs.length c'] 27, It.own g (g + 1) (some ⟨g, 0, none⟩) ((zs.set hole x).set k' (-1)), It.box (w.heap.size + 1) #[.int .i64 0, .int .i64 0, .slice none 0 0] 27] := SF
        clear SD SE SF
        have FR := fun v => (show Far (It.row (w1.heap.size + 1) hi' v pre) [It.box w1.heap.size #[.int .i64 T.t, .int .i64 T.p, .slice (some ⟨g, 0, none⟩) T.zs.length c'] 27, It.own g (g + 1) (some ⟨g, 0, none⟩) ((zs.set hole x).set k' (-1)), It.box (w.heap.size + 1) #[.int .i64 0, .int .i64 0, .slice none 0 0] 27] from by simp [Far, It.box, It.own, It.row]; omega)
        go_wp2_with (at_builtin; generalize hW : (w5.setCell ⟨g, hole, none⟩ (.int .i64 x)).setCell ⟨g, k', none⟩ (.int .i64 (-1)) = w6 at SG ⊢; have hz : w6.heap.size = w5.heap.size := (by rw [← hW]; simp [World.setCell]); rw [← hz]; clear hz hW; refine wpList_append_own _ rfl _ _ 22 rfl (w1.heap.size + 1) 3 i0 (.int .i64 0) 1 8 Tryz.underlying22 HI.out HZ0.out HZ1.out HZ2.out rfl (by decide) _ _ _ rfl ((SG.rows 0 rfl).alloc _) ⟨w6.heap.size, 0, none⟩ 1 1 [.int .i64 x] rfl rfl (cell_one_new _ _ _) (by simp [Value.oneCell']) (by unfold maxLen; omega) (by omega) (by have : w1.heap.size + 1 ≤ w6.heap.size := SG.sz 1 rfl; simp; omega) ?_; intro v' w7 hown7 hgrow7 _; obtain ⟨g', cap', rfl⟩ := ownsRow_more hown7; replace SG := SG.append (x := x) (FR _) (by omega) _ hown7 hgrow7; clear hown7 hgrow7)
        have HS : Hid (pre ++ [x] ++ (shiftR T (moved T zs hole d) k' 1).1 = (shiftZ T T.zs k).1 ∧ (shiftR T (moved T zs hole d) k' 1).2 = (shiftZ T T.zs k).2) := Lib.hid (by
          have h1 := HP.out
          rw [HE.out, HKE.out, HX.out] at h1
          refine ⟨?_, h1.2⟩
          rw [← h1.1]; simp)
        rw [← hmv.out] at SG
        go_roundw
        case rel => exact ⟨moved T zs hole d, k', 1, pre ++ [x], _, by rw [← HKE.out]; exact HN, rfl, by rw [next_int' hk'], HS, SG⟩
        case measure =>
          rw [next_int' hk', read_own (SG.owns 2 rfl) (by rw [moved_len]; exact hzl)]
          simp only [intOf, Int.toNat_natCast]
          rw [behN_fwd hk' (Nat.le_refl _) (by omega), HRD.out, HB.out]
          exact HM.out

set_option maxHeartbeats 4000000 in
theorem specDropShift_any (T : Tab) (a : Option Addr) (c : Nat) (key : Int) (w : World) (hx : T.zs.length ≤ 9223372036854775807) (h1 : IntsAt w a T.zs) :
    Calls Tryz.prog 33 #[tabV T a c, .int .i64 key] w (TabRes (shiftT T key) (shiftOk T key) w) := by
  have S0 := (((St.start w).read h1).alloc #[.int .i64 T.t, .int .i64 T.p, .slice a T.zs.length c] 27).alloc #[.int .i64 0, .int .i64 0, .slice none 0 0] 27
  rw [World.size_alloc] at S0
  obtain ⟨pl, hpl⟩ : ∃ p, findOf T key = p := ⟨_, rfl⟩
  have HNO : Hid (shiftOk T key = false → ∀ w', Below w.heap.size w w' → TabRes (shiftT T key) (shiftOk T key) w (.returned (.tuple #[tbl 0 0 none 0 0, .bool false])) w') := Lib.hid fun h w' hb => by
    rw [h, (shiftT_no h).1]; exact ⟨none, 0, rfl, OwnInts.nil _ _, hb⟩
  by_cases hp : 0 ≤ pl
  · have d : decide (0 ≤ pl) = true := decide_eq_true hp
    cases hs : plainB T
    · have E : Hid (shiftOk T key = false) := Lib.hid (by simp [shiftOk, hs])
      go_enter Tryz.func33, Tryz.ntmps33
      go_wp2_with fail
      refine (specFindKey_any T a c key _ hx (by exact S0.reads 2 rfl)).mono ?_
      rw [hpl, d]
      rintro e w1 ⟨rfl, hb⟩
      have S1 := S0.below hb
      clear S0 hb
      obtain ⟨x0, x1, x2, x3, x4, x5, xz⟩ := facts3 (S1.cells 1 rfl)
      go_wp2_with fail
      refine (l5Plain_any T a c _ hx (by exact S1.reads 2 rfl)).mono ?_
      rw [hs]
      rintro e w2 ⟨rfl, hb⟩
      have S2 := S1.below hb
      clear S1 hb x0 x1 x2 x3 x4 x5 xz
      obtain ⟨x0, x1, x2, x3, x4, x5, xz⟩ := facts3 (S2.cells 0 rfl)
      go_wp2
      refine bodyPost_ret (v := .tuple #[tbl 0 0 none 0 0, .bool false]) (by simp [results, Tryz.results33, go_sem, x0, x1, x2, x3, x4, x5]) rfl (HNO.out E.out _ ?_)
      exact set3 S2.old (by omega) _ _ _
    · have ok : shiftOk T key = true := by simp [shiftOk, hs, hpl, hp]
      obtain ⟨k, D⟩ := shift_says ok
      obtain rfl : pl = k := hpl.symm.trans D.find
      have hlt := D.lt
      have E : Hid (shiftOk T key = true ∧ shiftT T key = tab T (shiftZ T T.zs k).2) := Lib.hid ⟨ok, (shiftT_yes ok D.find).1⟩
      have HH := Lib.hid D.hole
      have HV := Lib.hid D.val
      have HZL := Lib.hid D.left.len
      clear ok D
      go_enter Tryz.func33, Tryz.ntmps33
      go_wp2_with fail
      refine (specFindKey_any T a c key _ hx (by exact S0.reads 2 rfl)).mono ?_
      rw [hpl, d]
      rintro e w1 ⟨rfl, hb⟩
      have S1 := S0.below hb
      clear S0 hb
      obtain ⟨x0, x1, x2, x3, x4, x5, xz⟩ := facts3 (S1.cells 1 rfl)
      go_wp2_with fail
      refine (l5Plain_any T a c _ hx (by exact S1.reads 2 rfl)).mono ?_
      rw [hs]
      rintro e w2 ⟨rfl, hb⟩
      have S2 := S1.below hb
      have z2 : w.heap.size + 1 < w2.heap.size := S2.sz 0 rfl
      clear S1 hb x0 x1 x2 x3 x4 x5 xz
      obtain ⟨x0, x1, x2, x3, x4, x5, xz⟩ := facts3 (S2.cells 1 rfl)
      go_wp2_with fail
      refine (l5Drop_any T a c k _ hlt HV.out HH.out (by exact S2.reads 2 rfl)).mono ?_
      rintro e w3 ⟨a3, c3, a4, c4, rfl, ho, ho2, hb⟩
      have S3 := ((S2.below hb).own ho).alloc #[.int .i64 T.t, .int .i64 T.p, .slice a3 T.zs.length c3] 27
      have z3 := hb.size
      clear S2 hb ho ho2 x0 x1 x2 x3 x4 x5 xz
      obtain ⟨x0, x1, x2, x3, x4, x5, xz⟩ := facts3 (S3.cells 2 rfl)
      obtain ⟨y0, y1, y2, y3, y4, y5, yz⟩ := facts3 (S3.cells 0 rfl)
      go_wp2
      have S4 := (S3.turn (l' := [It.own w2.heap.size w3.heap.size a3 (shiftZ T T.zs k).2]) fun i hi => by simp at hi; subst hi; simp).set3Far (b := w.heap.size + 1) ⟨.inr (by show w.heap.size + 1 + 1 ≤ w2.heap.size; omega), trivial⟩ (by omega) (.int .i64 T.t) (.int .i64 T.p) (.slice a3 T.zs.length c3)
      refine bodyPost_ret (v := .tuple #[tabV (tab T (shiftZ T T.zs k).2) a3 c3, .bool true]) (by simp [results, Tryz.results33, go_sem, tab, HZL.out, x0, x1, x2, x3, x4, x5, y0, y1, y2]) rfl ?_
      rw [E.out.1, E.out.2]
      exact ⟨a3, c3, rfl, (S4.owns 0 rfl).mono (by omega), S4.old⟩
  · have d : decide (0 ≤ pl) = false := decide_eq_false hp
    have E : Hid (shiftOk T key = false) := Lib.hid (by simp only [shiftOk, hpl, d]; rfl)
    go_enter Tryz.func33, Tryz.ntmps33
    go_wp2_with fail
    refine (specFindKey_any T a c key _ hx (by exact S0.reads 2 rfl)).mono ?_
    rw [hpl, d]
    rintro e w1 ⟨rfl, hb⟩
    have S1 := S0.below hb
    clear S0 hb
    obtain ⟨x0, x1, x2, x3, x4, x5, xz⟩ := facts3 (S1.cells 0 rfl)
    go_wp2
    refine bodyPost_ret (v := .tuple #[tbl 0 0 none 0 0, .bool false]) (by simp [results, Tryz.results33, go_sem, x0, x1, x2, x3, x4, x5]) rfl (HNO.out E.out _ ?_)
    exact set3 S1.old (by omega) _ _ _

end Go.Proofs.YtpncpeokdcolpaaGreatDoor

/-
  Keys become tombs: the program's without, and what it calls.
-/
import Derived.Test.YtpncpeokdcolpaaGreatDoorShelf
import Derived.Test.YtpncpeokdcolpaaGreatDoorShelf2
import Derived.Test.YtpncpeokdcolpaaGreatDoorNew
import Derived.Test.YtpncpeokdcolpaaGreatDoorDrawn
import Derived.Test.YtpncpeokdcolpaaGreatDoorMath
namespace Go.Proofs.YtpncpeokdcolpaaGreatDoor
open Go.RowKit

theorem contains_any (ks : List Int) (a : Option Addr) (c : Nat) (x : Int) (w : World) (hl : ks.length ≤ 9223372036854775807) (h1 : IntsAt w a ks) :
    Calls Tryz.prog 91 #[.slice a ks.length c, .int .i64 x] w fun e w' => e = .returned (.bool (decide (x ∈ ks))) ∧ w' = w := by
  rcases Nat.eq_zero_or_pos ks.length with h0 | h0
  · obtain rfl := List.length_eq_zero_iff.1 h0
    refine (Tryz.slices_Contains_int_empty a c x w).mono ?_
    rintro e w' ⟨rfl, rfl⟩
    exact ⟨rfl, rfl⟩
  · obtain ⟨b, o, rfl, hc⟩ := h1 h0
    refine (Tryz.slices_Contains_int b o ks.length c ks x w (Nat.le_refl _) hl (fun j hj => by exact hc j hj)).mono ?_
    rintro e w' ⟨rfl, rfl⟩
    refine ⟨?_, rfl⟩
    rw [List.take_length]
    congr 2
    rw [Bool.eq_iff_iff]
    simp

set_option maxHeartbeats 1000000 in
theorem without1_any (ks : List Int) (a : Option Addr) (c : Nat) (s : Int) (g k Bk : Nat) (x y : Int) (w : World) (hl : ks.length ≤ 9223372036854775807)
    (hB : w.heap[Bk]? = some (.cells #[.slice a ks.length c] 22 (0, 0))) (h1 : IntsAt w a ks) (hc : w.cell? ⟨g, k, none⟩ = some (.int .i64 x)) (hf : w.frozen? ⟨g, k, none⟩ = false) (hy : Hid ((if x ∈ ks then -2 else x) = y)) :
    Calls Tryz.prog 129 #[.int .i64 s, .pointer (some ⟨g, k, none⟩), .pointer (some ⟨Bk, 0, none⟩)] w fun e w' => e = .returned (.tuple #[]) ∧
      ((∃ q, w' = (w.drewN q).setCell ⟨g, k, none⟩ (.int .i64 y)) ∨ (y = x ∧ ∃ q, w' = w.drewN q)) := by
  obtain ⟨b0, f0, z0⟩ := facts1 hB
  have HC : Hid (∀ q, Calls Tryz.prog 91 #[.slice a ks.length c, .int .i64 x] (w.drewN q) fun e w' => e = .returned (.bool (decide (x ∈ ks))) ∧ w' = w.drewN q) := Lib.hid fun q => contains_any ks a c x _ hl (h1.drewN q)
  clear hB h1
  by_cases hm : x ∈ ks
  · have HM : Hid (y = -2) := Lib.hid (by rw [← hy.out, if_pos hm])
    have HC : Hid (∀ q, Calls Tryz.prog 91 #[.slice a ks.length c, .int .i64 x] (w.drewN q) fun e w' => e = .returned (.bool true) ∧ w' = w.drewN q) := Lib.hid fun q => by have := HC.out q; rwa [decide_eq_true hm] at this
    clear hm hy
    go_enter Tryz.func129, Tryz.ntmps129
    go_wp2_with fail
    go_quiet ((go_at_call 91; refine Calls.quiet_of_same (HC.out _)))
    go_wp2
    go_end0
    exact ⟨rfl, .inl ⟨_, by rw [HM.out]⟩⟩
  · have HM : Hid (y = x) := Lib.hid (by rw [← hy.out, if_neg hm])
    have HC : Hid (∀ q, Calls Tryz.prog 91 #[.slice a ks.length c, .int .i64 x] (w.drewN q) fun e w' => e = .returned (.bool false) ∧ w' = w.drewN q) := Lib.hid fun q => by have := HC.out q; rwa [decide_eq_false hm] at this
    clear hm hy
    go_enter Tryz.func129, Tryz.ntmps129
    go_wp2_with fail
    go_quiet ((go_at_call 91; refine Calls.quiet_of_same (HC.out _)))
    go_wp2
    go_end0
    exact ⟨rfl, .inr ⟨HM.out, _, rfl⟩⟩

set_option maxHeartbeats 2000000 in
theorem changedW_any (T : Tab) (a : Option Addr) (c : Nat) (cap : Addr) (f : Nat → Int → Int) (w : World) (l1 : 1 ≤ T.zs.length) (hn : T.zs.length ≤ 16) (h1 : IntsAt w a T.zs)
    (HF : ∀ (W : World) (g k : Nat), k < T.zs.length → Below w.heap.size w W → W.cell? ⟨g, k, none⟩ = some (.int .i64 (nth T.zs k)) → W.frozen? ⟨g, k, none⟩ = false →
      Calls Tryz.prog 129 #[.int .i64 k, .pointer (some ⟨g, k, none⟩), .pointer (some cap)] W fun e W' => e = .returned (.tuple #[]) ∧ ((∃ q, W' = (W.drewN q).setCell ⟨g, k, none⟩ (.int .i64 (f k (nth T.zs k)))) ∨ (f k (nth T.zs k) = nth T.zs k ∧ ∃ q, W' = W.drewN q))) :
    Calls Tryz.prog 128 #[tabV T a c, .func (.func 129) #[] #[.pointer (some cap)]] w fun e w' => ∃ g c', e = .returned (tabV ⟨T.t, T.p, mapTo f T.zs T.zs.length⟩ (some ⟨g, 0, none⟩) c') ∧ OwnInts w' w.heap.size (some ⟨g, 0, none⟩) (mapTo f T.zs T.zs.length) ∧ Below w.heap.size w w' := by
  obtain ⟨b, o, rfl, hc⟩ := h1 (by omega)
  have HFF := Lib.hid HF
  have S0 := (((St.start w).read h1).alloc #[.int .i64 T.t, .int .i64 T.p, .slice (some ⟨b, o, none⟩) T.zs.length c] 27).alloc #[.int .i64 0, .int .i64 0, .slice none 0 0] 27
  rw [World.size_alloc] at S0
  clear HF
  go_enter Tryz.func128, Tryz.ntmps128
  go_wp2_with fail
  refine (Tryz.slices_Clone_int b o T.zs.length c T.zs _ (Nat.le_refl _) (by omega) (fun j hj => ?_)).mono ?_
  · obtain ⟨b', o', e, hc'⟩ := (S0.reads 2 rfl) (by omega)
    cases e
    exact hc' j hj
  rintro e w2 ⟨v', rfl, hown, _, hb⟩
  obtain ⟨g, c', rfl⟩ := ownsRow_pos hown (by omega)
  rw [List.take_length] at hown
  have S1 := (S0.below hb).own (ownsRow_ints hown)
  have z2 : w.heap.size + 2 ≤ w2.heap.size := by have := hb.size; simpa using this
  clear hown hb S0 hc h1
  simp only [World.size_alloc] at S1
  have hg := (S1.owns 0 rfl).1 _ rfl
  simp only at hg
  have S2 := ((S1.turn (l' := [It.own (w.heap.size + 1 + 1) w2.heap.size (some ⟨g, 0, none⟩) T.zs, It.box (w.heap.size + 1) #[.int .i64 0, .int .i64 0, .slice none 0 0] 27]) fun i hi => by simp at hi; rcases hi with rfl | rfl <;> simp).setFar (p := ⟨w.heap.size, 2, none⟩) ⟨.inr (by show w.heap.size + 1 ≤ w.heap.size + 1 + 1; omega), .inr (by show w.heap.size + 1 ≤ w.heap.size + 1; omega), trivial⟩ (Nat.le_refl _) (.slice (some ⟨g, 0, none⟩) T.zs.length c')).add
    (It.box w.heap.size #[.int .i64 T.t, .int .i64 T.p, .slice (some ⟨g, 0, none⟩) T.zs.length c'] 27) (by show w.heap.size + 1 ≤ _; simp [World.setCell]; omega) (setCell_at (S1.cells 2 rfl) 2 _)
  have S3 := S2.turn (l' := [It.own (w.heap.size + 1 + 1) w2.heap.size (some ⟨g, 0, none⟩) T.zs, It.box (w.heap.size + 1) #[.int .i64 0, .int .i64 0, .slice none 0 0] 27, It.box w.heap.size #[.int .i64 T.t, .int .i64 T.p, .slice (some ⟨g, 0, none⟩) T.zs.length c'] 27]) fun i hi => by simp at hi; rcases hi with rfl | rfl | rfl <;> simp
  obtain ⟨x0, x1, x2, x3, x4, x5, xz⟩ := facts3 (S1.cells 2 rfl)
  clear S1 S2
  go_wp2_with fail
  clear x0 x1 x2 x3 x4 x5 xz
  go_loopw [5, 13] (fun _ i wr => ∃ k : Nat, k ≤ T.zs.length ∧ i = .int .i64 k ∧ St w wr [It.own (w.heap.size + 1 + 1) w2.heap.size (some ⟨g, 0, none⟩) (mapTo f T.zs k), It.box (w.heap.size + 1) #[.int .i64 0, .int .i64 0, .slice none 0 0] 27, It.box w.heap.size #[.int .i64 T.t, .int .i64 T.p, .slice (some ⟨g, 0, none⟩) T.zs.length c'] 27]) (fun _ i _ => T.zs.length - (intOf i).toNat)
  case atStart => exact ⟨0, Nat.zero_le _, rfl, by rw [mapTo_zero]; exact S3⟩
  case round =>
    obtain ⟨k, hk, rfl, Sr⟩ := hrel
    clear S3
    have hml := Lib.hid (mapTo_len f T.zs k)
    by_cases hlt : k < T.zs.length
    · have k0 : (0 : Int) ≤ (k : Int) := by omega
      have k1 : (k : Int) < (T.zs.length : Int) := by omega
      obtain ⟨x0, x1, x2, x3, x4, x5, xz⟩ := facts3 (Sr.cells 2 rfl)
      obtain ⟨b', o', e, hc', hf'⟩ := (Sr.owns 0 rfl).2 (by rw [hml.out]; omega)
      cases e
      have q := hc' k (by rw [hml.out]; exact hlt)
      have fz := hf' k (by rw [hml.out]; exact hlt)
      rw [Nat.zero_add] at q fz
      have q := (show _ = some (Value.int .i64 (nth (mapTo f T.zs k) k)) from q)
      rw [mapTo_at hlt] at q
      have HC := Lib.hid (HFF.out wr g k hlt Sr.old q fz)
      have HK := Lib.hid (mapTo_set (f := f) hlt)
      have HE := Lib.hid (mapTo_keep (f := f) hlt)
      clear hc' hf' q fz
      go_wp2_with fail
      clear x0 x1 x2 x3 x4 x5 xz
      refine HC.out.mono ?_
      rintro e w3 ⟨rfl, (⟨q, rfl⟩ | ⟨he, q, rfl⟩)⟩
      · have S4 := (Sr.below (below_drewN (Below.refl _ _) q)).storeOwn 0 k (by rw [hml.out]; exact hlt) rfl ⟨.inl (Nat.le_refl (w.heap.size + 1 + 1)), .inl (Nat.le_succ (w.heap.size + 1)), trivial⟩ (by omega) (f k (nth T.zs k))
        rw [HK.out] at S4
        go_wp2
        go_roundw
        case rel => exact ⟨k + 1, by omega, by go_num, S4⟩
        case measure => simp [intOf]; omega
      · have S4 := Sr.below (below_drewN (Below.refl _ _) q)
        rw [HE.out he] at S4
        go_wp2
        go_roundw
        case rel => exact ⟨k + 1, by omega, by go_num, S4⟩
        case measure => simp [intOf]; omega
    · obtain rfl : k = T.zs.length := by omega
      obtain ⟨x0, x1, x2, x3, x4, x5, xz⟩ := facts3 (Sr.cells 2 rfl)
      obtain ⟨y0, y1, y2, y3, y4, y5, yz⟩ := facts3 (Sr.cells 1 rfl)
      have S5 := (Sr.turn (l' := [It.own (w.heap.size + 1 + 1) w2.heap.size (some ⟨g, 0, none⟩) (mapTo f T.zs T.zs.length)]) fun i hi => by simp at hi; subst hi; simp).set3Far (b := w.heap.size + 1) ⟨.inr (by show w.heap.size + 1 + 1 ≤ w.heap.size + 1 + 1; omega), trivial⟩ (by omega) (.int .i64 T.t) (.int .i64 T.p) (.slice (some ⟨g, 0, none⟩) T.zs.length c')
      go_wp2
      refine bodyPost_ret (v := tbl T.t T.p (some ⟨g, 0, none⟩) T.zs.length c') (by simp [results, Tryz.results128, go_sem, x0, x1, x2, x3, x4, x5, y0, y1, y2, y3, y4, y5]) rfl ⟨g, c', ?_, ?_, ?_⟩
      · show Ending.returned (.agg #[.int .i64 T.t, .int .i64 T.p, .slice (some ⟨g, 0, none⟩) T.zs.length c']) = .returned (.agg #[.int .i64 T.t, .int .i64 T.p, .slice (some ⟨g, 0, none⟩) (mapTo f T.zs T.zs.length).length c'])
        rw [mapTo_len]
      · exact (S5.owns 0 rfl).mono (by omega)
      · exact S5.old

set_option maxHeartbeats 1000000 in
theorem without_any (T : Tab) (a : Option Addr) (c : Nat) (ks : List Int) (ak : Option Addr) (ck : Nat) (w : World) (l1 : 1 ≤ T.zs.length) (hn : T.zs.length ≤ 16) (hl : ks.length ≤ 9223372036854775807) (h1 : IntsAt w a T.zs) (h2 : IntsAt w ak ks) :
    Calls Tryz.prog 86 #[tabV T a c, .slice ak ks.length ck] w fun e w' => ∃ g c', e = .returned (tabV (dropAt T ks) (some ⟨g, 0, none⟩) c') ∧ OwnInts w' w.heap.size (some ⟨g, 0, none⟩) (dropAt T ks).zs ∧ Below w.heap.size w w' := by
  have S0 := ((((((St.start w).read h1).read h2).alloc #[.int .i64 T.t, .int .i64 T.p, .slice a T.zs.length c] 27).alloc #[.slice ak ks.length ck] 22).alloc #[.int .i64 0, .int .i64 0, .slice none 0 0] 27)
  simp only [World.size_alloc] at S0
  have HD := Lib.hid (mapTo_drop ks T.zs)
  go_enter Tryz.func86, Tryz.ntmps86
  go_wp2_with fail
  refine (changedW_any T a c ⟨w.heap.size + 1, 0, none⟩ (fun _ z => if z ∈ ks then -2 else z) _ l1 hn (by exact S0.reads 4 rfl) (fun W g k hk hW hc hf => ?_)).mono ?_
  · have SW := S0.below hW
    exact without1_any ks ak ck k g k (w.heap.size + 1) _ _ W hl (SW.cells 1 rfl) (SW.reads 3 rfl) hc hf (Lib.hid rfl)
  rw [HD.out]
  rintro e w2 ⟨g, c', rfl, ho, hb⟩
  have z0 : w.heap.size + 3 ≤ w2.heap.size := by have := hb.size; simpa using this
  have S1 := (S0.below hb).own ho
  simp only [World.size_alloc] at S1
  clear S0 hb ho
  obtain ⟨y0, y1, y2, y3, y4, y5, yz⟩ := facts3 (S1.cells 1 rfl)
  have S2 := (S1.turn (l' := [It.own (w.heap.size + 1 + 1 + 1) w2.heap.size (some ⟨g, 0, none⟩) (dropL ks T.zs)]) fun i hi => by simp at hi; subst hi; simp).set3Far (b := w.heap.size + 1 + 1) ⟨.inr (by show w.heap.size + 1 + 1 + 1 ≤ w.heap.size + 1 + 1 + 1; omega), trivial⟩ (by omega) (.int .i64 T.t) (.int .i64 T.p) (.slice (some ⟨g, 0, none⟩) (dropL ks T.zs).length c')
  go_wp2
  refine bodyPost_ret (v := tbl T.t T.p (some ⟨g, 0, none⟩) (dropL ks T.zs).length c') (by simp [results, Tryz.results86, go_sem, y0, y1, y2, y3, y4, y5]) rfl ⟨g, c', rfl, ?_, ?_⟩
  · exact (S2.owns 0 rfl).mono (by omega)
  · exact S2.old

end Go.Proofs.YtpncpeokdcolpaaGreatDoor

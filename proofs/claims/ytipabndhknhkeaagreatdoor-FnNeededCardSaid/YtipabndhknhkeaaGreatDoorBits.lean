/-
  Sets of slots: the program's methods; slots that hold something; slots that become free.
-/
import Derived.Test.YtipabndhknhkeaaGreatDoorShelf
import Derived.Test.YtipabndhknhkeaaGreatDoorNew
import Derived.Test.YtipabndhknhkeaaGreatDoorDrawn
import Derived.Test.YtipabndhknhkeaaGreatDoorBase
import Derived.Test.YtipabndhknhkeaaGreatDoorMath
import Derived.Test.YtipabndhknhkeaaGreatDoorWith
namespace Go.Proofs.YtipabndhknhkeaaGreatDoor
open Go.RowKit

set_option maxHeartbeats 400000 in
theorem has_any (m k : Nat) (hm : m < 65536) (hk : k < 16) (w : World) :
    Calls Tryz.prog 96 #[.int .u16 m, .int .i64 k] w fun e w' => e = .returned (.bool (m.testBit k)) ∧ w = w' := by
  have H := Lib.hid (bit_has hm hk)
  go_enter Tryz.func96, Tryz.ntmps96
  go_wp2
  go_ret
  exact ⟨by rw [← H.out]; rfl, rfl⟩
set_option maxHeartbeats 1000000 in
theorem holding_any (T : Tab) (g : Nat) (what : Int) (w : World) (l2 : T.zs.length ≤ 16) (hR : RingAt w g T) (hg : g < w.heap.size) :
    Calls Tryz.prog 63 #[.slice (some ⟨g, 0, none⟩) T.zs.length T.zs.length, .int .i64 what] w fun e w' => e = .returned (.int .u16 (setTo (fun i => nth T.zs i == what) T.zs.length)) ∧ Below w.heap.size w w' := by
  have R0 := Lib.hid hR
  clear hR
  go_enter Tryz.func63, Tryz.ntmps63
  go_wp2
  go_loopw [5, 6, 7, 10] (fun m _ _ i wr => ∃ k : Nat, k ≤ T.zs.length ∧ i = .int .i64 k ∧ m = .int .u16 (setTo (fun i => nth T.zs i == what) k) ∧ Below w.heap.size w wr) (fun _ _ _ i _ => T.zs.length - (intOf i).toNat)
  case atStart => exact ⟨0, Nat.zero_le _, rfl, rfl, Below.refl _ _⟩
  case round =>
    obtain ⟨k, hk, rfl, rfl, hB⟩ := hrel
    by_cases hlt : k < T.zs.length
    · have k0 : (0 : Int) ≤ (k : Int) := by omega
      have k1 : (k : Int) < (T.zs.length : Int) := by omega
      obtain ⟨r0, r1⟩ := (R0.out.below hB hg) k hlt
      have hlt2 : setTo (fun i => nth T.zs i == what) k < 65536 := setTo_lt (by omega)
      have HS := Lib.hid (setTo_succ (fun i => nth T.zs i == what) k)
      have B2 := fun o => hB.alloc hB.size o
      generalize nth T.zs k = x at r0 r1 HS
      generalize setTo (fun i => nth T.zs i == what) k = m at hlt2 HS
      by_cases hx : x = what
      · have d : (x == what) = true := by simpa using hx
        have HM : Hid (setTo (fun i => nth T.zs i == what) (k + 1) = m ||| 2 ^ k) := Lib.hid (by rw [HS.out, if_pos d])
        go_wp2_with (go_at_call 91; refine (with_any _ _ hlt2 (by omega) _).mono ?_; rintro e w' ⟨rfl, rfl⟩)
        go_roundw
        case rel => exact ⟨k + 1, by omega, by go_num, by rw [HM.out], B2 _⟩
        case measure => simp [intOf]; omega
      · have d : (x == what) = false := by simpa using hx
        have HM : Hid (setTo (fun i => nth T.zs i == what) (k + 1) = m) := Lib.hid (by rw [HS.out, d]; rfl)
        go_wp2
        go_roundw
        case rel => exact ⟨k + 1, by omega, by go_num, by rw [HM.out], B2 _⟩
        case measure => simp [intOf]; omega
    · obtain rfl : k = T.zs.length := by omega
      go_wp2
      go_ret
      exact ⟨rfl, hB⟩

set_option maxHeartbeats 1000000 in
theorem freed1_any (m : Nat) (hm : m < 65536) (s : Nat) (hs : s < 16) (g k Bk : Nat) (x y : Int) (w : World)
    (hB : w.heap[Bk]? = some (.cells #[.int .u16 m] 76 (0, 0))) (hc : w.cell? ⟨g, k, none⟩ = some (.int .i64 x)) (hf : w.frozen? ⟨g, k, none⟩ = false) (hy : Hid ((if m.testBit s then -1 else x) = y)) :
    Calls Tryz.prog 95 #[.int .i64 s, .pointer (some ⟨g, k, none⟩), .pointer (some ⟨Bk, 0, none⟩)] w fun e w' => e = .returned (.tuple #[]) ∧
      ((∃ q, w' = (w.drewN q).setCell ⟨g, k, none⟩ (.int .i64 y)) ∨ (y = x ∧ ∃ q, w' = w.drewN q)) := by
  obtain ⟨b0, f0, z0⟩ := facts1 hB
  cases hb : m.testBit s
  · have HM : Hid (y = x) := Lib.hid (by rw [← hy.out, hb]; rfl)
    clear hy
    go_enter Tryz.func95, Tryz.ntmps95
    go_wp2_with (go_at_call 96; refine (has_any m s hm hs _).mono ?_; rintro e w' ⟨rfl, rfl⟩; rw [hb])
    go_end0
    exact ⟨rfl, .inr ⟨HM.out, 0, rfl⟩⟩
  · have HM : Hid (y = -1) := Lib.hid (by rw [← hy.out, hb]; rfl)
    clear hy
    go_enter Tryz.func95, Tryz.ntmps95
    go_wp2_with (go_at_call 96; refine (has_any m s hm hs _).mono ?_; rintro e w' ⟨rfl, rfl⟩; rw [hb])
    go_end0
    exact ⟨rfl, .inl ⟨0, by rw [HM.out]; rfl⟩⟩

set_option maxHeartbeats 2000000 in
theorem changedF_any (T : Tab) (a : Option Addr) (c : Nat) (cap : Addr) (f : Nat → Int → Int) (w : World) (l1 : 1 ≤ T.zs.length) (hn : T.zs.length ≤ 16) (h1 : IntsAt w a T.zs)
    (HF : ∀ (W : World) (g k : Nat), k < T.zs.length → Below w.heap.size w W → W.cell? ⟨g, k, none⟩ = some (.int .i64 (nth T.zs k)) → W.frozen? ⟨g, k, none⟩ = false →
      Calls Tryz.prog 95 #[.int .i64 k, .pointer (some ⟨g, k, none⟩), .pointer (some cap)] W fun e W' => e = .returned (.tuple #[]) ∧ ((∃ q, W' = (W.drewN q).setCell ⟨g, k, none⟩ (.int .i64 (f k (nth T.zs k)))) ∨ (f k (nth T.zs k) = nth T.zs k ∧ ∃ q, W' = W.drewN q))) :
    Calls Tryz.prog 94 #[tabV T a c, .func (.func 95) #[] #[.pointer (some cap)]] w fun e w' => ∃ g c', e = .returned (tabV ⟨T.t, T.p, mapTo f T.zs T.zs.length⟩ (some ⟨g, 0, none⟩) c') ∧ OwnInts w' w.heap.size (some ⟨g, 0, none⟩) (mapTo f T.zs T.zs.length) ∧ Below w.heap.size w w' := by
  obtain ⟨b, o, rfl, hc⟩ := h1 (by omega)
  have HFF := Lib.hid HF
  have S0 := (((St.start w).read h1).alloc #[.int .i64 T.t, .int .i64 T.p, .slice (some ⟨b, o, none⟩) T.zs.length c] 28).alloc #[.int .i64 0, .int .i64 0, .slice none 0 0] 28
  rw [World.size_alloc] at S0
  clear HF
  go_enter Tryz.func94, Tryz.ntmps94
  go_wp2_with fail
  refine (Tryz.slices_Clone_int b o T.zs.length c T.zs _ (Nat.le_refl _) (by omega) (fun j hj => ?_)).mono ?_
  · obtain ⟨b', o', e, hc'⟩ := (S0.reads 2 rfl) (by omega)
    cases e
    exact hc' j hj
  rintro e w2 ⟨v', rfl, hown, _, hb⟩
  obtain ⟨g, c', rfl⟩ := ownsRow_pos hown (by omega)
  rw [List.take_length] at hown
  have S1 := (S0.below hb).own (ownsRow_ints hown)
  have z2 : w.heap.size + 2 ≤ w2.heap.size := by have := hb.size; simpa using this
  clear hown hb S0 hc h1
  simp only [World.size_alloc] at S1
  have hg := (S1.owns 0 rfl).1 _ rfl
  simp only at hg
  have S2 := ((S1.turn (l' := [It.own (w.heap.size + 1 + 1) w2.heap.size (some ⟨g, 0, none⟩) T.zs, It.box (w.heap.size + 1) #[.int .i64 0, .int .i64 0, .slice none 0 0] 28]) fun i hi => by simp at hi; rcases hi with rfl | rfl <;> simp).setFar (p := ⟨w.heap.size, 2, none⟩) ⟨.inr (by show w.heap.size + 1 ≤ w.heap.size + 1 + 1; omega), .inr (by show w.heap.size + 1 ≤ w.heap.size + 1; omega), trivial⟩ (Nat.le_refl _) (.slice (some ⟨g, 0, none⟩) T.zs.length c')).add
    (It.box w.heap.size #[.int .i64 T.t, .int .i64 T.p, .slice (some ⟨g, 0, none⟩) T.zs.length c'] 28) (by show w.heap.size + 1 ≤ _; simp [World.setCell]; omega) (setCell_at (S1.cells 2 rfl) 2 _)
  have S3 := S2.turn (l' := [It.own (w.heap.size + 1 + 1) w2.heap.size (some ⟨g, 0, none⟩) T.zs, It.box (w.heap.size + 1) #[.int .i64 0, .int .i64 0, .slice none 0 0] 28, It.box w.heap.size #[.int .i64 T.t, .int .i64 T.p, .slice (some ⟨g, 0, none⟩) T.zs.length c'] 28]) fun i hi => by simp at hi; rcases hi with rfl | rfl | rfl <;> simp
  obtain ⟨x0, x1, x2, x3, x4, x5, xz⟩ := facts3 (S1.cells 2 rfl)
  clear S1 S2
  go_wp2_with fail
  clear x0 x1 x2 x3 x4 x5 xz
  go_loopw [5, 13] (fun _ i wr => ∃ k : Nat, k ≤ T.zs.length ∧ i = .int .i64 k ∧ St w wr [It.own (w.heap.size + 1 + 1) w2.heap.size (some ⟨g, 0, none⟩) (mapTo f T.zs k), It.box (w.heap.size + 1) #[.int .i64 0, .int .i64 0, .slice none 0 0] 28, It.box w.heap.size #[.int .i64 T.t, .int .i64 T.p, .slice (some ⟨g, 0, none⟩) T.zs.length c'] 28]) (fun _ i _ => T.zs.length - (intOf i).toNat)
  case atStart => exact ⟨0, Nat.zero_le _, rfl, by rw [mapTo_zero]; exact S3⟩
  case round =>
    obtain ⟨k, hk, rfl, Sr⟩ := hrel
    clear S3
    have hml := Lib.hid (mapTo_len f T.zs k)
    by_cases hlt : k < T.zs.length
    · have k0 : (0 : Int) ≤ (k : Int) := by omega
      have k1 : (k : Int) < (T.zs.length : Int) := by omega
      obtain ⟨x0, x1, x2, x3, x4, x5, xz⟩ := facts3 (Sr.cells 2 rfl)
      obtain ⟨b', o', e, hc', hf'⟩ := (Sr.owns 0 rfl).2 (by rw [hml.out]; omega)
      cases e
      have q := hc' k (by rw [hml.out]; exact hlt)
      have fz := hf' k (by rw [hml.out]; exact hlt)
      rw [Nat.zero_add] at q fz
      have q := (show _ = some (Value.int .i64 (nth (mapTo f T.zs k) k)) from q)
      rw [mapTo_at hlt] at q
      have HC := Lib.hid (HFF.out wr g k hlt Sr.old q fz)
      have HK := Lib.hid (mapTo_set (f := f) hlt)
      have HE := Lib.hid (mapTo_keep (f := f) hlt)
      clear hc' hf' q fz
      go_wp2_with fail
      clear x0 x1 x2 x3 x4 x5 xz
      refine HC.out.mono ?_
      rintro e w3 ⟨rfl, (⟨q, rfl⟩ | ⟨he, q, rfl⟩)⟩
      · have S4 := (Sr.below (below_drewN (Below.refl _ _) q)).storeOwn 0 k (by rw [hml.out]; exact hlt) rfl ⟨.inl (Nat.le_refl (w.heap.size + 1 + 1)), .inl (Nat.le_succ (w.heap.size + 1)), trivial⟩ (by omega) (f k (nth T.zs k))
        rw [HK.out] at S4
        go_wp2
        go_roundw
        case rel => exact ⟨k + 1, by omega, by go_num, S4⟩
        case measure => simp [intOf]; omega
      · have S4 := Sr.below (below_drewN (Below.refl _ _) q)
        rw [HE.out he] at S4
        go_wp2
        go_roundw
        case rel => exact ⟨k + 1, by omega, by go_num, S4⟩
        case measure => simp [intOf]; omega
    · obtain rfl : k = T.zs.length := by omega
      obtain ⟨x0, x1, x2, x3, x4, x5, xz⟩ := facts3 (Sr.cells 2 rfl)
      obtain ⟨y0, y1, y2, y3, y4, y5, yz⟩ := facts3 (Sr.cells 1 rfl)
      have S5 := (Sr.turn (l' := [It.own (w.heap.size + 1 + 1) w2.heap.size (some ⟨g, 0, none⟩) (mapTo f T.zs T.zs.length)]) fun i hi => by simp at hi; subst hi; simp).set3Far (b := w.heap.size + 1) ⟨.inr (by show w.heap.size + 1 + 1 ≤ w.heap.size + 1 + 1; omega), trivial⟩ (by omega) (.int .i64 T.t) (.int .i64 T.p) (.slice (some ⟨g, 0, none⟩) T.zs.length c')
      go_wp2
      refine bodyPost_ret (v := tbl T.t T.p (some ⟨g, 0, none⟩) T.zs.length c') (by simp [results, Tryz.results94, go_sem, x0, x1, x2, x3, x4, x5, y0, y1, y2, y3, y4, y5]) rfl ⟨g, c', ?_, ?_, ?_⟩
      · show Ending.returned (.agg #[.int .i64 T.t, .int .i64 T.p, .slice (some ⟨g, 0, none⟩) T.zs.length c']) = .returned (.agg #[.int .i64 T.t, .int .i64 T.p, .slice (some ⟨g, 0, none⟩) (mapTo f T.zs T.zs.length).length c'])
        rw [mapTo_len]
      · exact (S5.owns 0 rfl).mono (by omega)
      · exact S5.old


/-- Some slots become free. -/
def freeL (m : Nat) (zs : List Int) : List Int := mapTo (fun i z => if m.testBit i then -1 else z) zs zs.length

set_option maxHeartbeats 1000000 in
theorem freed_any (T : Tab) (a : Option Addr) (c m : Nat) (w : World) (hm : m < 65536) (l1 : 1 ≤ T.zs.length) (hn : T.zs.length ≤ 16) (h1 : IntsAt w a T.zs) :
    Calls Tryz.prog 62 #[tabV T a c, .int .u16 m] w fun e w' => ∃ g c', e = .returned (tabV ⟨T.t, T.p, freeL m T.zs⟩ (some ⟨g, 0, none⟩) c') ∧ OwnInts w' w.heap.size (some ⟨g, 0, none⟩) (freeL m T.zs) ∧ Below w.heap.size w w' := by
  have S0 := (((((St.start w).read h1).alloc #[.int .i64 T.t, .int .i64 T.p, .slice a T.zs.length c] 28).alloc #[.int .u16 m] 76).alloc #[.int .i64 0, .int .i64 0, .slice none 0 0] 28)
  simp only [World.size_alloc] at S0
  have HD : Hid (mapTo (fun i z => if m.testBit i then -1 else z) T.zs T.zs.length = freeL m T.zs) := Lib.hid rfl
  go_enter Tryz.func62, Tryz.ntmps62
  go_wp2_with fail
  refine (changedF_any T a c ⟨w.heap.size + 1, 0, none⟩ (fun i z => if m.testBit i then -1 else z) _ l1 hn (by exact S0.reads 3 rfl) (fun W g k hk hW hc hf => ?_)).mono ?_
  · have SW := S0.below hW
    exact freed1_any m hm k (by omega) g k (w.heap.size + 1) _ _ W (SW.cells 1 rfl) hc hf (Lib.hid rfl)
  rw [HD.out]
  rintro e w2 ⟨g, c', rfl, ho, hb⟩
  have z0 : w.heap.size + 3 ≤ w2.heap.size := by have := hb.size; simpa using this
  have S1 := (S0.below hb).own ho
  simp only [World.size_alloc] at S1
  clear S0 hb ho
  obtain ⟨y0, y1, y2, y3, y4, y5, yz⟩ := facts3 (S1.cells 1 rfl)
  have S2 := (S1.turn (l' := [It.own (w.heap.size + 1 + 1 + 1) w2.heap.size (some ⟨g, 0, none⟩) (freeL m T.zs)]) fun i hi => by simp at hi; subst hi; simp).set3Far (b := w.heap.size + 1 + 1) ⟨.inr (by show w.heap.size + 1 + 1 + 1 ≤ w.heap.size + 1 + 1 + 1; omega), trivial⟩ (by omega) (.int .i64 T.t) (.int .i64 T.p) (.slice (some ⟨g, 0, none⟩) (freeL m T.zs).length c')
  go_wp2
  refine bodyPost_ret (v := tbl T.t T.p (some ⟨g, 0, none⟩) (freeL m T.zs).length c') (by simp [results, Tryz.results62, go_sem, y0, y1, y2, y3, y4, y5]) rfl ⟨g, c', rfl, ?_, ?_⟩
  · exact (S2.owns 0 rfl).mono (by omega)
  · exact S2.old

end Go.Proofs.YtipabndhknhkeaaGreatDoor

/-
  PutKey, PutVisits and LoadOf: the program's and the model's.
-/
import Derived.Test.YtpncpeokdcolpaaGreatDoorShelf
import Derived.Test.YtpncpeokdcolpaaGreatDoorNew
import Derived.Test.YtpncpeokdcolpaaGreatDoorDrawn
import Derived.Test.YtpncpeokdcolpaaGreatDoorCount
import Derived.Test.YtpncpeokdcolpaaGreatDoorLooksAll
import Derived.Test.YtpncpeokdcolpaaGreatDoorLostI
import Derived.Test.YtpncpeokdcolpaaGreatDoorMath
namespace Go.Proofs.YtpncpeokdcolpaaGreatDoor
open Go.RowKit

theorem putT_len (T : Tab) (key : Int) : (putT T key).zs.length ≤ 16 := by
  unfold putT
  split
  · rename_i h
    have := (valid_facts (place_asked (putOk_parts h).1).1).1.2
    rw [putAt_len]; exact this
  · simp

set_option maxHeartbeats 2000000 in
theorem withKey_any (T : Tab) (a : Option Addr) (c k : Nat) (key : Int) (w : World) (hk : k < T.zs.length) (hn : T.zs.length ≤ 16) (h1 : IntsAt w a T.zs) :
    Calls Tryz.prog 65 #[tabV T a c, .int .i64 k, .int .i64 key] w fun e w' => ∃ g c', e = .returned (tabV (putAt T k key) (some ⟨g, 0, none⟩) c') ∧ OwnInts w' w.heap.size (some ⟨g, 0, none⟩) (putAt T k key).zs ∧ Below w.heap.size w w' := by
  obtain ⟨b, o, rfl, hc⟩ := h1 (by omega)
  have S0 := (((St.start w).read h1).alloc #[.int .i64 T.t, .int .i64 T.p, .slice (some ⟨b, o, none⟩) T.zs.length c] 27).alloc #[.int .i64 0, .int .i64 0, .slice none 0 0] 27
  rw [World.size_alloc] at S0
  go_enter Tryz.func65, Tryz.ntmps65
  go_wp2_with fail
  refine (Tryz.slices_Clone_int b o T.zs.length c T.zs _ (Nat.le_refl _) (by omega) (fun j hj => ?_)).mono ?_
  · obtain ⟨b', o', e, hc'⟩ := (S0.reads 2 rfl) (by omega)
    cases e
    exact hc' j hj
  rintro e w2 ⟨v', rfl, hown, _, hb⟩
  obtain ⟨g, c', rfl⟩ := ownsRow_pos hown (by omega)
  rw [List.take_length] at hown
  have S1 := (S0.below hb).own (ownsRow_ints hown)
  clear hown hb S0 hc h1
  have hg := (S1.owns 0 rfl).1 _ rfl
  simp only [World.size_alloc] at hg
  obtain ⟨b', o', e, hc, hf⟩ := (S1.owns 0 rfl).2 (by omega)
  cases e
  have q := hc k hk
  have f := hf k hk
  rw [Nat.zero_add] at q f
  clear hc hf
  obtain ⟨x0, x1, x2, x3, x4, x5, xz⟩ := facts3 (S1.cells 2 rfl)
  obtain ⟨y0, y1, y2, y3, y4, y5, yz⟩ := facts3 (S1.cells 1 rfl)
  have n1 : g ≠ w.heap.size := by omega
  have n2 : g ≠ w.heap.size + 1 := by omega
  have k0 : (0 : Int) ≤ (k : Int) := by omega
  have k1 : (k : Int) < (T.zs.length : Int) := by omega
  go_wp2
  have S2 := ((((S1.turn (l' := [It.own (w.heap.size + 1 + 1) w2.heap.size (some ⟨g, 0, none⟩) T.zs]) fun i hi => by simp at hi; subst hi; simp).setFar (p := ⟨w.heap.size, 2, none⟩) ⟨.inr (by show w.heap.size + 1 ≤ w.heap.size + 1 + 1; omega), trivial⟩ (Nat.le_refl _) (.slice (some ⟨g, 0, none⟩) T.zs.length c')).storeOwn 0 k hk rfl (by simp [Far]) (by omega) key).set3Far (b := w.heap.size + 1) ⟨.inr (Nat.le_refl _), trivial⟩ (by omega) (.int .i64 T.t) (.int .i64 T.p) (.slice (some ⟨g, 0, none⟩) T.zs.length c'))
  refine bodyPost_ret (v := tabV (putAt T k key) (some ⟨g, 0, none⟩) c') (by simp [results, Tryz.results65, go_sem, putAt, x0, x1, x2, x3, x4, x5, y0, y1, y2, y3, y4, y5]) rfl ⟨g, c', rfl, ?_, ?_⟩
  · exact (S2.owns 0 rfl).mono (by omega)
  · exact S2.old

theorem putT_no {T : Tab} {key : Int} (h : putOk T key = false) : putT T key = ⟨0, 0, []⟩ := by simp [putT, h]
theorem putT_yes {T : Tab} {key : Int} {k : Nat} (h : putOk T key = true) (hk : placeI T key = k) : putT T key = putAt T k key := by simp [putT, h, hk]
theorem tabRes_no {T : Tab} {key : Int} {w w' : World} (h : putOk T key = false) (hb : Below w.heap.size w w') : TabRes (putT T key) (putOk T key) w (.returned (.tuple #[tbl 0 0 none 0 0, .bool false])) w' := by
  rw [h, putT_no h]
  exact ⟨none, 0, rfl, OwnInts.nil _ _, hb⟩

set_option maxHeartbeats 2000000 in
theorem PutKey_any (T : Tab) (a : Option Addr) (c : Nat) (key : Int) (w : World) (hx : T.zs.length ≤ 9223372036854775807) (h1 : IntsAt w a T.zs) :
    Calls Tryz.prog 20 #[tabV T a c, .int .i64 key] w (TabRes (putT T key) (putOk T key) w) := by
  have S0 := (((St.start w).read h1).alloc #[.int .i64 T.t, .int .i64 T.p, .slice a T.zs.length c] 27).alloc #[.int .i64 0, .int .i64 0, .slice none 0 0] 27
  rw [World.size_alloc] at S0
  obtain ⟨pl, hpl⟩ : ∃ p, placeI T key = p := ⟨_, rfl⟩
  by_cases hp : 0 ≤ pl
  · have d : decide (0 ≤ pl) = true := decide_eq_true hp
    cases hs : soundB T
    · have E : Hid (putOk T key = false) := Lib.hid (by simp [putOk, hs])
      go_enter Tryz.func20, Tryz.ntmps20
      go_wp2_with fail
      refine (PlaceFor_any T a c key _ hx (by exact S0.reads 2 rfl)).mono ?_
      rw [hpl]
      rintro e w1 ⟨rfl, hb⟩
      have S1 := S0.below hb
      clear S0 hb
      obtain ⟨x0, x1, x2, x3, x4, x5, xz⟩ := facts3 (S1.cells 1 rfl)
      go_wp2_with fail
      refine (IsSound_any T a c _ hx (by exact S1.reads 2 rfl)).mono ?_
      rw [hs]
      rintro e w2 ⟨rfl, hb⟩
      have S2 := S1.below hb
      clear S1 hb x0 x1 x2 x3 x4 x5 xz
      obtain ⟨x0, x1, x2, x3, x4, x5, xz⟩ := facts3 (S2.cells 0 rfl)
      go_wp2
      refine bodyPost_ret (v := .tuple #[tbl 0 0 none 0 0, .bool false]) (by simp [results, Tryz.results20, go_sem, x0, x1, x2, x3, x4, x5]) rfl (tabRes_no E.out ?_)
      exact set3 S2.old (by omega) _ _ _
    · have ok : putOk T key = true := by simp [putOk, hs, hpl, hp]
      obtain ⟨k, rfl⟩ : ∃ k : Nat, pl = k := ⟨pl.toNat, by omega⟩
      have hlt : k < T.zs.length := by have := putPlace_lt (T := T) (key := key) (by rw [hpl]; exact hp); rw [hpl] at this; exact this
      have hn : T.zs.length ≤ 16 := (valid_facts (put_says ok).val).1.2
      have E : Hid (putOk T key = true ∧ putT T key = putAt T k key) := Lib.hid ⟨ok, putT_yes ok hpl⟩
      clear ok
      go_enter Tryz.func20, Tryz.ntmps20
      go_wp2_with fail
      refine (PlaceFor_any T a c key _ hx (by exact S0.reads 2 rfl)).mono ?_
      rw [hpl]
      rintro e w1 ⟨rfl, hb⟩
      have S1 := S0.below hb
      clear S0 hb
      obtain ⟨x0, x1, x2, x3, x4, x5, xz⟩ := facts3 (S1.cells 1 rfl)
      go_wp2_with fail
      refine (IsSound_any T a c _ hx (by exact S1.reads 2 rfl)).mono ?_
      rw [hs]
      rintro e w2 ⟨rfl, hb⟩
      have S2 := S1.below hb
      clear S1 hb x0 x1 x2 x3 x4 x5 xz
      obtain ⟨x0, x1, x2, x3, x4, x5, xz⟩ := facts3 (S2.cells 1 rfl)
      go_wp2_with fail
      refine (withKey_any T a c k key _ hlt hn (by exact S2.reads 2 rfl)).mono ?_
      rintro e w3 ⟨g, c', rfl, ho, hb⟩
      have z2 : w.heap.size + 1 < w2.heap.size := S2.sz 0 rfl
      have S3 := (S2.below hb).own ho
      clear S2 hb ho x0 x1 x2 x3 x4 x5 xz
      obtain ⟨x0, x1, x2, x3, x4, x5, xz⟩ := facts3 (S3.cells 1 rfl)
      go_wp2
      have S4 := (S3.turn (l' := [It.own w2.heap.size w3.heap.size (some ⟨g, 0, none⟩) (putAt T k key).zs]) fun i hi => by simp at hi; subst hi; simp).set3Far (b := w.heap.size + 1) ⟨.inr (by show w.heap.size + 1 + 1 ≤ w2.heap.size; omega), trivial⟩ (by omega) (.int .i64 (putAt T k key).t) (.int .i64 (putAt T k key).p) (.slice (some ⟨g, 0, none⟩) (putAt T k key).zs.length c')
      refine bodyPost_ret (v := .tuple #[tabV (putAt T k key) (some ⟨g, 0, none⟩) c', .bool true]) (by simp [results, Tryz.results20, go_sem, x0, x1, x2, x3, x4, x5]) rfl ?_
      rw [E.out.1, E.out.2]
      exact ⟨_, c', rfl, (S4.owns 0 rfl).mono (by omega), S4.old⟩
  · have d : decide (0 ≤ pl) = false := decide_eq_false hp
    have E : Hid (putOk T key = false) := Lib.hid (by simp only [putOk, hpl, d]; rfl)
    go_enter Tryz.func20, Tryz.ntmps20
    go_wp2_with fail
    refine (PlaceFor_any T a c key _ hx (by exact S0.reads 2 rfl)).mono ?_
    rw [hpl]
    rintro e w1 ⟨rfl, hb⟩
    have S1 := S0.below hb
    clear S0 hb
    obtain ⟨x0, x1, x2, x3, x4, x5, xz⟩ := facts3 (S1.cells 0 rfl)
    go_wp2
    refine bodyPost_ret (v := .tuple #[tbl 0 0 none 0 0, .bool false]) (by simp [results, Tryz.results20, go_sem, x0, x1, x2, x3, x4, x5]) rfl (tabRes_no E.out ?_)
    exact set3 S1.old (by omega) _ _ _

set_option maxHeartbeats 2000000 in
theorem specPutKey_any (T : Tab) (a : Option Addr) (c : Nat) (key : Int) (w : World) (hx : T.zs.length ≤ 9223372036854775807) (h1 : IntsAt w a T.zs) :
    Calls Tryz.prog 21 #[tabV T a c, .int .i64 key] w (TabRes (putT T key) (putOk T key) w) := by
  have S0 := (((St.start w).read h1).alloc #[.int .i64 T.t, .int .i64 T.p, .slice a T.zs.length c] 27).alloc #[.int .i64 0, .int .i64 0, .slice none 0 0] 27
  rw [World.size_alloc] at S0
  obtain ⟨pl, hpl⟩ : ∃ p, placeI T key = p := ⟨_, rfl⟩
  by_cases hp : 0 ≤ pl
  · have d : decide (0 ≤ pl) = true := decide_eq_true hp
    cases hs : soundB T
    · have E : Hid (putOk T key = false) := Lib.hid (by simp [putOk, hs])
      go_enter Tryz.func21, Tryz.ntmps21
      go_wp2_with fail
      refine (specPlaceFor_any T a c key _ hx (by exact S0.reads 2 rfl)).mono ?_
      rw [hpl]
      rintro e w1 ⟨rfl, hb⟩
      have S1 := S0.below hb
      clear S0 hb
      obtain ⟨x0, x1, x2, x3, x4, x5, xz⟩ := facts3 (S1.cells 1 rfl)
      go_wp2_with fail
      refine (specIsSound_any T a c _ hx (by exact S1.reads 2 rfl)).mono ?_
      rw [hs]
      rintro e w2 ⟨rfl, hb⟩
      have S2 := S1.below hb
      clear S1 hb x0 x1 x2 x3 x4 x5 xz
      obtain ⟨x0, x1, x2, x3, x4, x5, xz⟩ := facts3 (S2.cells 0 rfl)
      go_wp2
      refine bodyPost_ret (v := .tuple #[tbl 0 0 none 0 0, .bool false]) (by simp [results, Tryz.results21, go_sem, x0, x1, x2, x3, x4, x5]) rfl (tabRes_no E.out ?_)
      exact set3 S2.old (by omega) _ _ _
    · have ok : putOk T key = true := by simp [putOk, hs, hpl, hp]
      obtain ⟨k, rfl⟩ : ∃ k : Nat, pl = k := ⟨pl.toNat, by omega⟩
      have hlt : k < T.zs.length := by have := putPlace_lt (T := T) (key := key) (by rw [hpl]; exact hp); rw [hpl] at this; exact this
      have hn := (valid_facts (put_says ok).val).1
      have E : Hid (putOk T key = true ∧ putT T key = putAt T k key) := Lib.hid ⟨ok, putT_yes ok hpl⟩
      clear ok
      go_enter Tryz.func21, Tryz.ntmps21
      go_wp2_with fail
      refine (specPlaceFor_any T a c key _ hx (by exact S0.reads 2 rfl)).mono ?_
      rw [hpl]
      rintro e w1 ⟨rfl, hb⟩
      have S1 := S0.below hb
      clear S0 hb
      obtain ⟨x0, x1, x2, x3, x4, x5, xz⟩ := facts3 (S1.cells 1 rfl)
      go_wp2_with fail
      refine (specIsSound_any T a c _ hx (by exact S1.reads 2 rfl)).mono ?_
      rw [hs]
      rintro e w2 ⟨rfl, hb⟩
      have S2 := S1.below hb
      clear S1 hb x0 x1 x2 x3 x4 x5 xz
      obtain ⟨x0, x1, x2, x3, x4, x5, xz⟩ := facts3 (S2.cells 1 rfl)
      go_wp2_with fail
      refine (l1Copy_any T a c _ hn.1 (by omega) (by exact S2.reads 2 rfl)).mono ?_
      rintro e w3 ⟨g, c', rfl, ho, hb⟩
      have z2 : w.heap.size + 1 < w2.heap.size := S2.sz 0 rfl
      have z3 := hb.size
      have S3 := (S2.below hb).own ho
      clear S2 hb ho x0 x1 x2 x3 x4 x5 xz
      have hg := (S3.owns 0 rfl).1 _ rfl
      simp only at hg
      obtain ⟨b', o', e, hc, hf⟩ := (S3.owns 0 rfl).2 (by omega)
      cases e
      have q := hc k hlt
      have f := hf k hlt
      rw [Nat.zero_add] at q f
      clear hc hf
      obtain ⟨x0, x1, x2, x3, x4, x5, xz⟩ := facts3 (S3.cells 1 rfl)
      have n1 : g ≠ w3.heap.size := by omega
      have n2 : g ≠ w.heap.size + 1 := by omega
      have n3 : w3.heap.size ≠ w.heap.size + 1 := by omega
      have k0 : (0 : Int) ≤ (k : Int) := by omega
      have k1 : (k : Int) < (T.zs.length : Int) := by omega
      have S4 := (((S3.turn (l' := [It.own w2.heap.size w3.heap.size (some ⟨g, 0, none⟩) T.zs]) fun i hi => by simp at hi; subst hi; simp).storeOwn 0 k hlt rfl trivial (by omega) key).set3Far (b := w.heap.size + 1) ⟨.inr (by show w.heap.size + 1 + 1 ≤ w2.heap.size; omega), trivial⟩ (by omega) (.int .i64 T.t) (.int .i64 T.p) (.slice (some ⟨g, 0, none⟩) T.zs.length c')).alloc #[.int .i64 T.t, .int .i64 T.p, .slice (some ⟨g, 0, none⟩) T.zs.length c'] 27
      go_wp2
      have r0 : ((((w3.setCell ⟨g, k, none⟩ (.int .i64 key)).setCell ⟨w.heap.size + 1, 0, none⟩ (.int .i64 T.t)).setCell ⟨w.heap.size + 1, 1, none⟩ (.int .i64 T.p)).setCell ⟨w.heap.size + 1, 2, none⟩ (.slice (some ⟨g, 0, none⟩) T.zs.length c')).heap[w.heap.size + 1]? = some (.cells #[.int .i64 T.t, .int .i64 T.p, .slice (some ⟨g, 0, none⟩) T.zs.length c'] 27 (0, 0)) := by
        have h0 := (Below.heap_setCell w3 ⟨g, k, none⟩ (.int .i64 key) (w.heap.size + 1) (by simp only; omega)).trans (S3.cells 1 rfl)
        exact setCell_at (setCell_at (setCell_at h0 0 _) 1 _) 2 _
      obtain ⟨r1, r2, r3, _⟩ := facts3 r0
      have o1 := fun (o : Obj) => Lib.cell?_alloc_some o r1
      have o2 := fun (o : Obj) => Lib.cell?_alloc_some o r2
      have o3 := fun (o : Obj) => Lib.cell?_alloc_some o r3
      refine bodyPost_ret (v := .tuple #[tabV (putAt T k key) (some ⟨g, 0, none⟩) c', .bool true]) (by simp [results, Tryz.results21, go_sem, putAt, o1, o2, o3]) rfl ?_
      rw [E.out.1, E.out.2]
      exact ⟨_, c', rfl, (S4.owns 1 rfl).mono (by omega), S4.old⟩
  · have d : decide (0 ≤ pl) = false := decide_eq_false hp
    have E : Hid (putOk T key = false) := Lib.hid (by simp only [putOk, hpl, d]; rfl)
    go_enter Tryz.func21, Tryz.ntmps21
    go_wp2_with fail
    refine (specPlaceFor_any T a c key _ hx (by exact S0.reads 2 rfl)).mono ?_
    rw [hpl]
    rintro e w1 ⟨rfl, hb⟩
    have S1 := S0.below hb
    clear S0 hb
    obtain ⟨x0, x1, x2, x3, x4, x5, xz⟩ := facts3 (S1.cells 0 rfl)
    go_wp2
    refine bodyPost_ret (v := .tuple #[tbl 0 0 none 0 0, .bool false]) (by simp [results, Tryz.results21, go_sem, x0, x1, x2, x3, x4, x5]) rfl (tabRes_no E.out ?_)
    exact set3 S1.old (by omega) _ _ _

theorem putVis_no {T : Tab} {key : Int} (h : putOk T key = false) : putVis T key = -1 := by simp [putVis, h]
theorem putVis_yes {T : Tab} {key : Int} (h : putOk T key = true) : putVis T key = visOf T key ∧ validB T = true ∧ (0 ≤ key ∧ key ≤ 99) ∧ visOf T key = ((wayOf T key).length : Int) := by
  have P := put_says h
  have hv := P.val
  refine ⟨by simp [putVis, h], hv, P.key0, ?_⟩
  rw [wayOf, wayTo_len, visOf, if_pos (by rw [hv]; simpa using inB_true P.key0)]

end Go.Proofs.YtpncpeokdcolpaaGreatDoor

/-
  The program's FewestTombs.
-/
import Derived.Test.YtipabndhknhkeaaGreatDoorFew
namespace Go.Proofs.YtipabndhknhkeaaGreatDoor
open Go.RowKit

theorem few_rows {T : Tab} (hv : validB T = true) : freeL (fewSet T) T.zs = fewL T := nth_ext (by simp [freeL, fewL, mapTo_len]) fun i hi => by
  simp only [freeL, mapTo_len] at hi
  unfold freeL fewL
  rw [mapTo_nth hi, if_pos hi, mapTo_nth hi, if_pos hi, fewSet_bit hv hi]
  rfl
theorem few_bits {T : Tab} (hv : validB T = true) : bits BinOp.andNot IntKind.u16 ((setTo (fun i => nth T.zs i == -2) T.zs.length : Nat) : Int) ((needTo T T.zs.length : Nat) : Int) = ((fewSet T : Nat) : Int) := by
  obtain ⟨⟨l1, l2⟩, _⟩ := valid_facts hv
  rw [u16_andNot_nat _ _ (setTo_lt l2) (needTo_lt l1 l2 _)]
  rfl

theorem fewRes_row {T : Tab} {w w' : World} {a : Option Addr} {c : Nat} (hs : soundB T = true) (ho : OwnInts w' w.heap.size a (fewL T)) (hb : Below w.heap.size w w') :
    TabRes (fewT T) true w (.returned (.tuple #[tbl T.t T.p a (fewL T).length c, .bool true])) w' := by
  have := fewRes_yes (c := c) hs ho hb
  rwa [← fewL_len] at this

set_option maxHeartbeats 2000000 in
theorem FewestTombs_any (T : Tab) (a : Option Addr) (c : Nat) (w : World) (hx : T.zs.length ≤ 9223372036854775807) (h1 : IntsAt w a T.zs) :
    Calls Tryz.prog 32 #[tabV T a c] w (TabRes (fewT T) (soundB T) w) := by
  have S0 := (((St.start w).read h1).alloc #[.int .i64 T.t, .int .i64 T.p, .slice a T.zs.length c] 28).alloc #[.int .i64 0, .int .i64 0, .slice none 0 0] 28
  rw [World.size_alloc] at S0
  cases hs : soundB T
  · have E := Lib.hid hs
    go_enter Tryz.func32, Tryz.ntmps32
    go_wp2_with fail
    refine (IsSound_any T a c _ hx (by exact S0.reads 2 rfl)).mono ?_
    rw [hs]
    rintro e w2 ⟨rfl, hb⟩
    have S2 := S0.below hb
    clear S0 hb
    obtain ⟨x0, x1, x2, x3, x4, x5, xz⟩ := facts3 (S2.cells 0 rfl)
    go_wp2
    refine bodyPost_ret (v := .tuple #[tbl 0 0 none 0 0, .bool false]) (by simp [results, Tryz.results32, go_sem, x0, x1, x2, x3, x4, x5]) rfl ?_
    exact fewRes_no E.out (set3 S2.old (Nat.le_succ _) (.int .i64 0) (.int .i64 0) (.slice none 0 0))
  · have hv := (sound_all.1 hs).1
    have hn := (valid_facts hv).1
    have HV := Lib.hid hv
    have HS := Lib.hid hs
    have HB := Lib.hid (few_bits hv)
    have HR := Lib.hid (few_rows hv)
    have hfl := fewSet_lt (T := T) hn.2
    have ne0 : w.heap.size ≠ w.heap.size + 1 := by omega
    go_enter Tryz.func32, Tryz.ntmps32
    go_wp2_with fail
    refine (IsSound_any T a c _ hx (by exact S0.reads 2 rfl)).mono ?_
    rw [hs]
    rintro e w2 ⟨rfl, hb⟩
    have S2 := S0.below hb
    clear S0 hb hv hs
    have z2 : w.heap.size + 1 < w2.heap.size := S2.sz 0 rfl
    obtain ⟨x0, x1, x2, x3, x4, x5, xz⟩ := facts3 (S2.cells 1 rfl)
    go_wp2_with fail
    refine (ringOf_any T a c _ (by exact S2.reads 2 rfl) HV.out).mono ?_
    rintro e w3 ⟨g, rfl, hg0, hg, hr, hb⟩
    have S3 := S2.below hb
    have z3 := hb.size
    have RR := Lib.hid hr
    clear S2 hb hr x0 x1 x2 x3 x4 x5 xz
    obtain ⟨x0, x1, x2, x3, x4, x5, xz⟩ := facts3 (S3.cells 1 rfl)
    obtain ⟨y0, y1, y2, y3, y4, y5, yz⟩ := facts3 (S3.cells 0 rfl)
    go_wp2_with fail
    go_region_held3 (fun w' => w'.cell? ⟨w.heap.size, 0, none⟩ = some (.int .i64 T.t) ∧ w'.cell? ⟨w.heap.size, 1, none⟩ = some (.int .i64 T.p) ∧ w'.cell? ⟨w.heap.size, 2, none⟩ = some (.slice a T.zs.length c))
      (first
        | exact ⟨x0, x1, x2⟩
        | (with_reducible exact T5)
        | (with_reducible exact T6)
        | (with_reducible exact T7)
        | (with_reducible exact keep_set3 ne0 T7))
      (first
        | (go_at_call 63; refine (holding_any T g (-2) _ hn.2 (by exact RR.out) (by exact hg)).mono ?_; rintro e w5 ⟨rfl, hb⟩; have S5 := S3.drew.below hb; have hg5 : g < w5.heap.size := Nat.lt_of_lt_of_le hg hb.size; have R5 : Hid (RingAt w5 g T) := Lib.hid (RingAt.below (w := w3.drew) RR.out hb hg); have T5 := S5.three 1 rfl; clear hb)
        | (go_at_call 59; refine (needed_any T g _ HV.out R5.out hg5).mono ?_; rintro e w6 ⟨rfl, hb⟩; have S6 := S5.below hb; have T6 := S6.three 1 rfl; clear hb)
        | (go_at_call 62; rw [HB.out]; refine (freed_any T a c _ _ hfl hn.1 hn.2 (by exact S6.reads 2 rfl)).mono ?_; rw [HR.out]; rintro e w7 ⟨g7, c7, rfl, ho, hb⟩; have z7 := hb.size; have S7 := (S6.below hb).own ho; have T7 := S7.three 2 rfl; clear ho hb x0 x1 x2 x3 x4 x5 xz y0 y1 y2 y3 y4 y5 yz; obtain ⟨y0, y1, y2, y3, y4, y5, yz⟩ := facts3 (S7.cells 1 rfl)))
    have S8 := (S7.turn (l' := [It.own w6.heap.size w7.heap.size (some ⟨g7, 0, none⟩) (fewL T)]) fun i hi => by simp at hi; subst hi; simp).set3Far (b := w.heap.size + 1) ⟨.inr (by show w.heap.size + 1 + 1 ≤ w6.heap.size; have := S6.sz 0 rfl; exact this), trivial⟩ (by omega) (.int .i64 T.t) (.int .i64 T.p) (.slice (some ⟨g7, 0, none⟩) (fewL T).length c7)
    go_wp2
    refine bodyPost_ret (v := .tuple #[tbl T.t T.p (some ⟨g7, 0, none⟩) (fewL T).length c7, .bool true]) (by simp [results, Tryz.results32, go_sem, y0, y1, y2, y3, y4, y5]) rfl ?_
    exact fewRes_row HS.out ((S8.owns 0 rfl).mono (by have := S6.size; omega)) S8.old

end Go.Proofs.YtipabndhknhkeaaGreatDoor

/-
  l2Find, FindKey, VisitsFor of the model.
-/
import Derived.Test.YtblkafmamnimjaaGreatDoorWay
import Derived.Deep.RegionHeld3
namespace Go.Proofs.YtblkafmamnimjaaGreatDoor
open Go.RowKit

theorem way_last (T : Tab) (hv : validB T = true) (key : Int) : ∃ m, (wayOf T key).length = m + 1 ∧ nth (wayOf T key) m = (lastOf T key : Int) ∧ m < T.zs.length := by
  obtain ⟨⟨l1, _⟩, _⟩ := valid_facts hv
  obtain ⟨v1, v2⟩ := visN_bounds l1 key (homeN T key)
  refine ⟨visN T key (homeN T key) - 1, ?_, ?_, by omega⟩
  · rw [wayOf, wayTo_len]; omega
  · rw [wayOf, wayTo_nth (by omega)]; rfl

set_option maxHeartbeats 1000000 in
set_option maxRecDepth 100000 in
theorem l2Find_any (T : Tab) (a : Option Addr) (c : Nat) (key : Int) (w : World) (hv : validB T = true) (h0 : 0 ≤ key) (h9 : key ≤ 99) (h1 : IntsAt w a T.zs) :
    Calls Tryz.prog 65 #[tabV T a c, .int .i64 key] w fun e w' => e = .returned (.int .i64 (findI T key)) ∧ Below w.heap.size w w' := by
  obtain ⟨⟨l1, l2⟩, _⟩ := valid_facts hv
  obtain ⟨m, hm, hl, hm16⟩ := way_last T hv key
  have HL := Lib.hid hl
  have HM := Lib.hid hm
  have hlt := lastOf_lt l1 key
  have HF : Hid (findI T key = if nth T.zs (lastOf T key) = key then (lastOf T key : Int) else -1) := Lib.hid rfl
  clear hl hm
  generalize lastOf T key = kk at hlt HL HF
  have S0 := ((St.start w).read h1).alloc #[.int .i64 T.t, .int .i64 T.p, .slice a T.zs.length c] 25
  go_enter Tryz.func65, Tryz.ntmps65
  go_wp2_with fail
  refine (l2Way_any T a c key _ hv h0 h9 (by exact S0.reads 1 rfl)).mono ?_
  rw [HM.out]
  rintro e w1 ⟨g, c', rfl, ho, hb⟩
  have S1 := S0.below hb
  clear S0 hb
  obtain ⟨x0, x1, x2, x3, x4, x5, xz⟩ := facts3 (S1.cells 0 rfl)
  obtain ⟨b, o, y, rfl, q, Y⟩ := (S1.reads 1 rfl).at hlt
  obtain ⟨b2, o2, y2, e2, q2, Y2⟩ := ho.ints.at (k := m) (by rw [HM.out]; exact Nat.lt_succ_self m)
  cases e2
  have hy2 : y2 = (kk : Int) := Y2.out.symm.trans HL.out
  subst hy2
  rw [Nat.zero_add] at q2
  rw [Y.out] at HF
  have S2 := S1.old
  clear S1 ho
  cases e1 : (y == key)
  · have R : Hid (findI T key = -1) := Lib.hid (by rw [HF.out, if_neg (by simpa using e1)])
    go_wp2
    go_ret
    exact ⟨ret_int R.out.symm, S2⟩
  · have R : Hid (findI T key = kk) := Lib.hid (by rw [HF.out, if_pos (by simpa using e1)])
    go_wp2
    go_ret
    exact ⟨ret_int R.out.symm, S2⟩

set_option maxHeartbeats 400000 in
theorem l2Asked_any (T : Tab) (a : Option Addr) (c : Nat) (key : Int) (w : World) (hx : T.zs.length ≤ 9223372036854775807) (h1 : IntsAt w a T.zs) :
    Calls Tryz.prog 104 #[tabV T a c, .int .i64 key] w fun e w' => e = .returned (.bool (validB T && inB key 0 99)) ∧ Below w.heap.size w w' := by
  have S0 := ((St.start w).read h1).alloc #[.int .i64 T.t, .int .i64 T.p, .slice a T.zs.length c] 25
  cases hv : validB T
  · go_enter Tryz.func104, Tryz.ntmps104
    go_wp2_with fail
    refine (specTableValid_any T a c _ hx (by exact S0.reads 1 rfl)).mono ?_
    rw [hv]
    rintro e w1 ⟨rfl, hb⟩
    have S1 := S0.below hb
    go_wp2
    go_ret
    exact ⟨rfl, S1.old⟩
  · go_enter Tryz.func104, Tryz.ntmps104
    go_wp2_with fail
    refine (specTableValid_any T a c _ hx (by exact S0.reads 1 rfl)).mono ?_
    rw [hv]
    rintro e w1 ⟨rfl, hb⟩
    have S1 := S0.below hb
    go_wp2_with (first | (go_at_call 98; refine (l1Key_any _ _).mono ?_; rintro e w' ⟨rfl, rfl⟩))
    go_ret
    exact ⟨rfl, S1.old⟩

/-- What l2Asked asks. -/
theorem asked_yes {T : Tab} {key : Int} (h : (validB T && inB key 0 99) = true) : validB T = true ∧ 0 ≤ key ∧ key ≤ 99 := by
  rw [Bool.and_eq_true] at h
  have := inB_iff.1 h.2
  exact ⟨h.1, this⟩

end Go.Proofs.YtblkafmamnimjaaGreatDoor

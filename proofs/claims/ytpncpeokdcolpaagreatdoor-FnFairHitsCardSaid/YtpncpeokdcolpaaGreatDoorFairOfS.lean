/-
  FairOf of the model.
-/
import Derived.Test.YtpncpeokdcolpaaGreatDoorModel6All
import Derived.Test.YtpncpeokdcolpaaGreatDoorKeysSpec
namespace Go.Proofs.YtpncpeokdcolpaaGreatDoor
open Go.RowKit

/-- A table's head over free slots. -/
def freeF (T : Tab) : Tab := ⟨T.t, T.p, List.replicate T.zs.length (-1)⟩
def fofOk (T : Tab) : Bool := validB T && decide ((keysOf T).length < T.zs.length) && fallOk (freeF T) (keysOf T)
def fofT (T : Tab) : Tab := if fofOk T then fallT (freeF T) (keysOf T) else ⟨0, 0, []⟩
theorem fofT_len (T : Tab) : (fofT T).zs.length ≤ 16 := by
  unfold fofT
  split
  · exact fallT_len _ _
  · simp
theorem fofRes_no {T : Tab} {w w' : World} (h : fofOk T = false) (hb : Below w.heap.size w w') : TabRes (fofT T) (fofOk T) w (.returned (.tuple #[tbl 0 0 none 0 0, .bool false])) w' := by
  have e : fofT T = ⟨0, 0, []⟩ := by simp [fofT, h]
  rw [h, e]
  exact ⟨none, 0, rfl, OwnInts.nil _ _, hb⟩

set_option maxHeartbeats 4000000 in
theorem specFairOf_any (T : Tab) (a : Option Addr) (c : Nat) (w : World) (hx : T.zs.length ≤ 9223372036854775807) (h1 : IntsAt w a T.zs) :
    Calls Tryz.prog 29 #[tabV T a c] w (TabRes (fofT T) (fofOk T) w) := by
  have S0 := (((St.start w).read h1).alloc #[.int .i64 T.t, .int .i64 T.p, .slice a T.zs.length c] 27).alloc #[.int .i64 0, .int .i64 0, .slice none 0 0] 27
  rw [World.size_alloc] at S0
  have HK := Lib.hid fun (W : World) (h : IntsAt W a T.zs) => specKeysIn_any T a c W hx h
  have hkl : (keysOf T).length ≤ 100 := by
    unfold keysOf
    split
    · exact sortTo_len _ _
    · simp
  cases hv : validB T
  · have E : Hid (fofOk T = false) := Lib.hid (by simp [fofOk, hv])
    rw [hv] at HK
    generalize keysOf T = ks at HK hkl
    go_enter Tryz.func29, Tryz.ntmps29
    go_wp2_with fail
    refine (HK.out _ (by exact S0.reads 2 rfl)).mono ?_
    rintro e w2 ⟨a2, c2, rfl, ho, hb⟩
    have S2 := S0.below hb
    clear S0 hb ho
    obtain ⟨x0, x1, x2, x3, x4, x5, xz⟩ := facts3 (S2.cells 0 rfl)
    go_wp2
    refine bodyPost_ret (v := .tuple #[tbl 0 0 none 0 0, .bool false]) (by simp [results, Tryz.results29, go_sem, x0, x1, x2, x3, x4, x5]) rfl (fofRes_no E.out ?_)
    exact set3 S2.old (by omega) _ _ _
  · obtain ⟨⟨l1, l2⟩, _⟩ := valid_facts hv
    rw [hv] at HK
    by_cases hl : T.zs.length ≤ (keysOf T).length
    · have E : Hid (fofOk T = false) := Lib.hid (by simp [fofOk, hv]; omega)
      generalize keysOf T = ks at HK hkl hl
      have d1 : decide ((T.zs.length : Int) ≤ (ks.length : Int)) = true := by simp; omega
      go_enter Tryz.func29, Tryz.ntmps29
      go_wp2_with fail
      refine (HK.out _ (by exact S0.reads 2 rfl)).mono ?_
      rintro e w2 ⟨a2, c2, rfl, ho, hb⟩
      have S2 := S0.below hb
      clear S0 hb ho
      obtain ⟨x0, x1, x2, x3, x4, x5, xz⟩ := facts3 (S2.cells 0 rfl)
      obtain ⟨y0, y1, y2, y3, y4, y5, yz⟩ := facts3 (S2.cells 1 rfl)
      go_wp2
      refine bodyPost_ret (v := .tuple #[tbl 0 0 none 0 0, .bool false]) (by simp [results, Tryz.results29, go_sem, x0, x1, x2, x3, x4, x5]) rfl (fofRes_no E.out ?_)
      exact set3 S2.old (by omega) _ _ _
    · have E : Hid (fofOk T = fallOk (freeF T) (keysOf T) ∧ (fallOk (freeF T) (keysOf T) = false → fallT (freeF T) (keysOf T) = ⟨0, 0, []⟩)) := Lib.hid ⟨by
        have : decide ((keysOf T).length < T.zs.length) = true := decide_eq_true (by omega)
        simp only [fofOk, hv, this, Bool.true_and], fun h => by simp [fallT, h]⟩
      have E2 : Hid (fofT T = fallT (freeF T) (keysOf T)) := Lib.hid (by
        unfold fofT
        split
        · rfl
        · rename_i h
          have h : fofOk T = false := by simpa using h
          rw [E.out.1] at h
          exact (E.out.2 h).symm)
      have HFA := Lib.hid fun (af : Option Addr) (cf : Nat) (ak : Option Addr) (ck : Nat) (W : World) (h1 : IntsAt W af (freeF T).zs) (h2 : IntsAt W ak (keysOf T)) => specFairAll_any (freeF T) af cf (keysOf T) ak ck W (by show (List.replicate T.zs.length (-1)).length ≤ _; simp; omega) (by omega) h1 h2
      have e3 : ∀ af cf, tabV (freeF T) af cf = tbl T.t T.p af T.zs.length cf := fun af cf => by
        show Value.agg #[_, _, .slice af (List.replicate T.zs.length (-1)).length cf] = _
        rw [List.length_replicate]; rfl
      simp only [e3] at HFA
      have hE1 := E.out.1
      clear E e3
      generalize fallOk (freeF T) (keysOf T) = ok at HFA hE1
      generalize fallT (freeF T) (keysOf T) = U at HFA E2
      generalize keysOf T = ks at HK hkl hl HFA
      have d1 : decide ((T.zs.length : Int) ≤ (ks.length : Int)) = false := by simp; omega
      have HE1 := Lib.hid hE1
      clear hE1
      go_enter Tryz.func29, Tryz.ntmps29
      go_wp2_with fail
      refine (HK.out _ (by exact S0.reads 2 rfl)).mono ?_
      rintro e w2 ⟨a2, c2, rfl, ho, hb⟩
      have S2 := (S0.below hb).own ho
      have z2 : w.heap.size + 1 < w2.heap.size := S2.sz 1 rfl
      clear S0 hb ho
      obtain ⟨x0, x1, x2, x3, x4, x5, xz⟩ := facts3 (S2.cells 2 rfl)
      go_wp2_with fail
      clear x0 x1 x2 x3 x4 x5 xz
      refine (l1Free_any T.zs.length T.t T.p _ l2).mono ?_
      rintro e w3 ⟨a3, c3, rfl, ho, hb, _⟩
      have S3 := (S2.below hb).own ho
      clear S2 hb ho
      go_wp2_with fail
      refine (HFA.out _ _ _ _ _ (by exact S3.ints 0 rfl) (by exact S3.ints 1 rfl)).mono ?_
      rintro e w4 ⟨a4, c4, rfl, ho, hb⟩
      have z3 : w2.heap.size ≤ w3.heap.size := S3.sz 1 rfl
      have S4 := (S3.below hb).own ho
      clear S3 hb ho
      obtain ⟨y0, y1, y2, y3, y4, y5, yz⟩ := facts3 (S4.cells 3 rfl)
      have S5 := (S4.turn (l' := [It.own w3.heap.size w4.heap.size a4 U.zs]) fun i hi => by simp at hi; subst hi; simp).set3Far (b := w.heap.size + 1) ⟨.inr (by show w.heap.size + 1 + 1 ≤ w3.heap.size; omega), trivial⟩ (by omega) (.int .i64 U.t) (.int .i64 U.p) (.slice a4 U.zs.length c4)
      go_wp2
      refine bodyPost_ret (v := .tuple #[tabV U a4 c4, .bool ok]) (by simp [results, Tryz.results29, go_sem, y0, y1, y2, y3, y4, y5]) rfl ?_
      rw [HE1.out, E2.out]
      exact ⟨a4, c4, rfl, (S5.owns 0 rfl).mono (by omega), S5.old⟩

end Go.Proofs.YtpncpeokdcolpaaGreatDoor

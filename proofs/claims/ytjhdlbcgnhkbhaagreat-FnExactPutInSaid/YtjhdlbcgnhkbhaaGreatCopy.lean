/-
  l1Copy of the model: a table that shares no memory with another one.
-/
import Derived.Test.YtjhdlbcgnhkbhaaGreatDraw4
import Derived.Test.YtjhdlbcgnhkbhaaGreatBase
namespace Go.Proofs.YtjhdlbcgnhkbhaaGreat
open Go.RowKit

theorem ownsRow_pos {w : World} {base : Nat} {e : TypeId} {size : Nat} {v : Value} {n : Nat} {xs : List Value} (h : w.ownsRow base e size v n xs) (h0 : 0 < n) : ∃ g cap, v = .slice (some ⟨g, 0, none⟩) n cap := by
  rcases h.2 with ⟨_, h1⟩ | ⟨g, cap, cur, rfl, _⟩
  · omega
  · exact ⟨g, cap, rfl⟩

theorem ownsRow_cap {w : World} {base : Nat} {e : TypeId} {size : Nat} {a : Option Addr} {m c n : Nat} {xs : List Value} (h : w.ownsRow base e size (.slice a m c) n xs) : n ≤ c := by
  rcases h.2 with ⟨hv, h1⟩ | ⟨g, cap, cur, hv, _, _, h1, _⟩
  · omega
  · simp only [Value.slice.injEq] at hv
    omega

set_option maxHeartbeats 2000000 in
theorem l1Copy_cap (T : Tab) (a : Option Addr) (c : Nat) (w : World) (h1 : 1 ≤ T.zs.length) (hn : T.zs.length ≤ 100) (h : IntsAt w a T.zs) :
    Calls Tryz.prog 28 #[tabV T a c] w fun e w' => ∃ g c', e = .returned (tabV T (some ⟨g, 0, none⟩) c') ∧ T.zs.length ≤ c' ∧ OwnInts w' w.heap.size (some ⟨g, 0, none⟩) T.zs ∧ Below w.heap.size w w' := by
  obtain ⟨i0, hi, hz0, hz1, hz2⟩ := info_parts Tryz.info3
  have HI := Lib.hid hi; have HZ0 := Lib.hid hz0; have HZ1 := Lib.hid hz1; have HZ2 := Lib.hid hz2
  clear hi hz0 hz1 hz2
  have S0 := (((St.start w).read h).alloc #[.int .i64 T.t, .int .i64 T.p, .slice a T.zs.length c] 26).alloc #[.int .i64 0, .int .i64 0, .slice none 0 0] 26
  rw [World.size_alloc] at S0
  obtain ⟨b, o, rfl, hc⟩ := h (by omega)
  have hown := row_start ((w.alloc (.cells #[.int .i64 T.t, .int .i64 T.p, .slice (some ⟨b, o, none⟩) T.zs.length c] 26)).alloc (.cells #[.int .i64 0, .int .i64 0, .slice none 0 0] 26))
  have S1 := S0.below ((Below.refl _ _).alloc (Nat.le_refl _) (.cells #[] 3))
  simp only [World.size_alloc] at hown S1
  have hc2 : Hid (∀ (j : Nat) (u : Value), (T.zs.map (Value.int .i64))[j]? = some u → (((w.alloc (.cells #[.int .i64 T.t, .int .i64 T.p, .slice (some ⟨b, o, none⟩) T.zs.length c] 26)).alloc (.cells #[.int .i64 0, .int .i64 0, .slice none 0 0] 26)).alloc (.cells #[] 3)).cell? ((⟨b, o, none⟩ : Addr).add j) = some u) := Lib.hid (by
    intro j u hj
    have hj' : j < T.zs.length := by have := (List.getElem?_eq_some_iff.1 hj).1; simpa using this
    obtain ⟨b', o', e, h5⟩ := (S1.reads 2 rfl) (by omega)
    cases e
    rw [List.getElem?_map, List.getElem?_eq_getElem hj'] at hj
    have h6 := h5 j hj'
    rw [List.getElem?_eq_getElem hj'] at h6
    simp at hj h6
    rw [show (⟨b, o, none⟩ : Addr).add j = ⟨b, o + j, none⟩ by simp [Addr.add], h6, hj])
  have HO := Lib.hid hown
  clear hown hc
  go_enter Tryz.func28, Tryz.ntmps28
  go_wp2_with (at_builtin; refine wpList_append_own _ rfl _ _ 22 rfl (w.heap.size + 1 + 1) 3 i0 (.int .i64 0) 1 8 Tryz.underlying22 HI.out HZ0.out HZ1.out HZ2.out rfl (by decide) _ _ _ rfl HO.out ⟨b, o, none⟩ T.zs.length c (T.zs.map (Value.int .i64)) rfl (by simp) hc2.out (by intro u hu; obtain ⟨x, _, rfl⟩ := List.mem_map.1 hu; rfl) (by unfold maxLen; omega) (by omega) (by simp) ?_)
  intro v' w5 hown5 hg5 _
  obtain ⟨g, c', rfl⟩ := ownsRow_pos hown5 (by omega)
  have hcap := Lib.hid (ownsRow_cap hown5)
  have e0 : w5.heap[w.heap.size]? = _ := (hg5.block _ (by simp; omega) (by simp [Value.ownBlock]; omega)).trans (S1.cells 1 rfl)
  have e1 : w5.heap[w.heap.size + 1]? = _ := (hg5.block _ (by simp) (by simp [Value.ownBlock])).trans (S1.cells 0 rfl)
  have e2 := setCell_at e0 2 (.slice (some ⟨g, 0, none⟩) T.zs.length c')
  have B5 : Hid (Below w.heap.size w w5) := Lib.hid (S1.old.trans (grownBy_below hg5 (by simp; omega) (fun k e => by simp [Value.ownBlock] at e; omega)))
  have HO5 := Lib.hid (ownsRow_ints hown5)
  have hz5 := hg5.size
  simp only [World.size_alloc] at hz5
  obtain ⟨x0, x1, x2, x3, x4, x5, xz⟩ := facts3 e0
  obtain ⟨y0, y1, y2, y3, y4, y5, yz⟩ := facts3 e1
  clear hown5 hg5 e0 e1 e2 S0 S1 HO hc2
  go_wp2
  refine bodyPost_ret (v := tabV T (some ⟨g, 0, none⟩) c') (by simp [results, Tryz.results28, go_sem, x0, x1, x2, x3, x4, x5, y0, y1, y2, y3, y4, y5]) rfl ⟨g, c', rfl, hcap.out, ?_, ?_⟩
  · exact ((((HO5.out.setOther (p := ⟨w.heap.size, 2, none⟩) (by simp; omega) _).setOther (p := ⟨w.heap.size + 1, 0, none⟩) (by simp) _).setOther (p := ⟨w.heap.size + 1, 1, none⟩) (by simp) _).setOther (p := ⟨w.heap.size + 1, 2, none⟩) (by simp) _).mono (by omega)
  · exact set3 (B5.out.setCell (p := ⟨w.heap.size, 2, none⟩) (Nat.le_refl _) _) (by omega) _ _ _

theorem l1Copy_any (T : Tab) (a : Option Addr) (c : Nat) (w : World) (h1 : 1 ≤ T.zs.length) (hn : T.zs.length ≤ 100) (h : IntsAt w a T.zs) :
    Calls Tryz.prog 28 #[tabV T a c] w fun e w' => ∃ g c', e = .returned (tabV T (some ⟨g, 0, none⟩) c') ∧ OwnInts w' w.heap.size (some ⟨g, 0, none⟩) T.zs ∧ Below w.heap.size w w' := by
  refine (l1Copy_cap T a c w h1 hn h).mono ?_
  rintro e w' ⟨g, c', rfl, _, k⟩
  exact ⟨g, c', rfl, k⟩

end Go.Proofs.YtjhdlbcgnhkbhaaGreat

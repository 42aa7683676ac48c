/-
  ringOf: the slots of a valid table as a ring of cells, each with what it holds and a home.
-/
import Derived.Test.YtfkdandmedojpaaDoorHomeIn
import Derived.Test.YtfkdandmedojpaaDoorRow
namespace Go.Proofs.YtfkdandmedojpaaDoor
open Go.RowKit

/-- The home that a cell bears: of a key its home; of what is no key a number that nobody reads. -/
def homeT (T : Tab) (x : Int) : Int := (T.t * x + T.p).tmod T.zs.length
theorem homeT_key {T : Tab} {x : Int} (hv : validB T = true) (h : 0 ≤ x) : homeT T x = homeI T x := by
  obtain ⟨_, ⟨t1, _⟩, ⟨p1, _⟩, _⟩ := valid_facts hv
  exact Int.tmod_eq_emod_of_nonneg (by have := mul_nonneg' t1 h; omega)

set_option maxHeartbeats 400000 in
theorem homeIn_all (T : Tab) (a : Option Addr) (c : Nat) (x : Int) (w : World) (hv : validB T = true) (h0 : -2 ≤ x) (h1 : x ≤ 99) :
    Calls Tryd.prog 30 #[tabV T a c, .int .i64 x] w fun e w' => e = .returned (.int .i64 (homeT T x)) ∧ Below w.heap.size w w' := by
  by_cases hx : 0 ≤ x
  · refine (homeIn_any T a c x w hv hx h1).mono ?_
    rintro e w' ⟨rfl, hb⟩
    exact ⟨ret_int (homeT_key hv hx).symm, hb⟩
  · obtain ⟨⟨l1, l2⟩, ⟨t1, t2⟩, ⟨p1, p2⟩, _⟩ := valid_facts hv
    have m := mul_bounds t1 t2 (k := x) h0 h1
    have ln : ((T.zs.length : Int) == 0) = false := beq_eq_false_iff_ne.2 (by omega)
    have bb := tmod_bounds (T.t * x + T.p) (n := T.zs.length) (by omega)
    go_enter Tryd.func30, Tryd.ntmps30
    go_wp2
    go_ret
    exact ⟨rfl, (Below.refl _ _).alloc (Nat.le_refl _) _⟩

/-- The cells of a ring of n cells at block g hold what f says. -/
def RingSt (w : World) (g n : Nat) (f : Nat → Value) : Prop := ∀ j, j < n * 2 → w.cell? ⟨g, j, none⟩ = some (f j) ∧ w.frozen? ⟨g, j, none⟩ = false

/-- The ring of a table. -/
def RingAt (w : World) (g : Nat) (T : Tab) : Prop :=
  ∀ i, i < T.zs.length → w.cell? ⟨g, i * 2, none⟩ = some (.int .i64 (nth T.zs i)) ∧ w.cell? ⟨g, i * 2 + 1, none⟩ = some (.int .i64 (homeT T (nth T.zs i)))

theorem info73 : (Tryd.prog.info? 57).map (fun i => (i.zero, i.size, i.bytes)) = some (some (.agg #[.int .i64 0, .int .i64 0]), 2, 16) := by kernel_rfl

def zeros2 (n : Nat) : Array Value := madeCells #[.int .i64 0, .int .i64 0] (n * 2)

theorem mk_ring (n : Nat) (hn : n ≤ 1000) (w : World) : (Instr.makeSlice 53 (.int .i64 n) (.int .i64 n)).run Tryd.prog w = .ok (.slice (some ⟨w.heap.size, 0, none⟩) n n) (w.alloc (.cells (zeros2 n) 57)) := by
  obtain ⟨i0, hi, hz0, hz1, hz2⟩ := info_parts info73
  have h := run_make (P := Tryd.prog) w 53 57 i0 (.agg #[.int .i64 0, .int .i64 0]) Tryd.underlying53 hi hz0 .i64 .i64 n n (by omega) (by omega) (by rw [hz2]; omega) (by omega)
  simp only [Int.toNat_natCast] at h
  rw [h, hz1]
  rfl

theorem ring_start (w : World) (n : Nat) : ∃ f, RingSt (w.alloc (.cells (zeros2 n) 57)) w.heap.size n f := by
  refine ⟨fun j => ((zeros2 n)[j]?.getD undef), fun j hj => ⟨?_, World.frozen?_alloc_at _ _ _ _ rfl⟩⟩
  rw [World.cell?_alloc_at _ _ _ _ rfl]
  have : j < (zeros2 n).size := by rw [zeros2, size_madeCells]; exact hj
  simp [this]

theorem RingSt.set {w : World} {g n : Nat} {f : Nat → Value} (h : RingSt w g n f) (j : Nat) (hj : j < n * 2) (v : Value) : RingSt (w.setCell ⟨g, j, none⟩ v) g n (fun i => if i = j then v else f i) := by
  intro i hi
  refine ⟨?_, (World.frozen?_setCell _ _ _ _).trans (h i hi).2⟩
  by_cases e : i = j
  · subst e
    rw [World.cell?_setCell_same _ _ _ (h i hi).1]; simp
  · rw [World.cell?_setCell_other _ _ _ _ (by simp only [ne_eq, Addr.mk.injEq, true_and, and_true]; omega), (h i hi).1]
    simp [e]

theorem RingSt.below {w w' : World} {g n : Nat} {f : Nat → Value} (h : RingSt w g n f) (hb : Below w.heap.size w w') (hz : g < w.heap.size) : RingSt w' g n f :=
  fun j hj => ⟨(hb.cell (p := ⟨g, j, none⟩) hz).trans (h j hj).1, (hb.frozen (p := ⟨g, j, none⟩) hz).trans (h j hj).2⟩

set_option maxHeartbeats 1000000 in
theorem ringOf_any (T : Tab) (a : Option Addr) (c : Nat) (w : World) (h1 : IntsAt w a T.zs) (hv : validB T = true) :
    Calls Tryd.prog 31 #[tabV T a c] w fun e w' => ∃ g, e = .returned (.slice (some ⟨g, 0, none⟩) T.zs.length T.zs.length) ∧ w.heap.size ≤ g ∧ g < w'.heap.size ∧ RingAt w' g T ∧ Below w.heap.size w w' := by
  obtain ⟨⟨l1, l2⟩, _⟩ := valid_facts hv
  have S0 := ((St.start w).read h1).alloc #[.int .i64 T.t, .int .i64 T.p, .slice a T.zs.length c] 25
  have hmk := mk_ring T.zs.length (by omega)
  have S1 := S0.below ((Below.refl _ _).alloc (Nat.le_refl _) (.cells (zeros2 T.zs.length) 57))
  obtain ⟨f0, R0⟩ := ring_start (w.alloc (.cells #[.int .i64 T.t, .int .i64 T.p, .slice a T.zs.length c] 25)) T.zs.length
  rw [World.size_alloc] at R0
  go_enter Tryd.func31, Tryd.ntmps31
  go_wp2
  clear hmk
  go_loopw [4, 5, 13] (fun _ _ i wr => ∃ (k : Nat) (f : Nat → Value), k ≤ T.zs.length ∧ i = .int .i64 k ∧ RingSt wr (w.heap.size + 1) T.zs.length f ∧ w.heap.size + 1 < wr.heap.size ∧
      (∀ i, i < k → f (i * 2) = .int .i64 (nth T.zs i) ∧ f (i * 2 + 1) = .int .i64 (homeT T (nth T.zs i))) ∧ St w wr [It.box w.heap.size #[.int .i64 T.t, .int .i64 T.p, .slice a T.zs.length c] 25, It.read w.heap.size a T.zs])
      (fun _ _ i _ => T.zs.length - (intOf i).toNat)
  case atStart => exact ⟨0, f0, Nat.zero_le _, rfl, R0, by simp, fun _ h => (by omega), S1⟩
  case round =>
    obtain ⟨k, f, hk, rfl, hr, hz, hf, hst⟩ := hrel
    have R := Lib.hid hr
    have F := Lib.hid hf
    clear hr hf S0 S1 R0
    by_cases hlt : k < T.zs.length
    · obtain ⟨b, o, x, rfl, q, X⟩ := (hst.reads 1 rfl).at hlt
      obtain ⟨hx1, hx2⟩ := valid_slot hv hlt
      rw [X.out] at hx1 hx2
      obtain ⟨x0, x1, x2, x3, x4, x5, xz⟩ := facts3 (hst.cells 0 rfl)
      go_wp2_with fail
      refine (homeIn_all T _ c x _ hv hx1 hx2).mono ?_
      rintro e w2 ⟨rfl, hb⟩
      have R2 := Lib.hid (R.out.below hb hz)
      obtain ⟨r0, r1⟩ := R2.out (k * 2) (by omega)
      obtain ⟨r2, r3⟩ := R2.out (k * 2 + 1) (by omega)
      have hz2 := Nat.lt_of_lt_of_le hz hb.size
      have S2 := hst.below hb
      clear hst hb x0 x1 x2 x3 x4 x5 xz
      go_wp2
      go_roundw
      case rel =>
        refine ⟨k + 1, _, by omega, by go_num, (R2.out.set (k * 2) (by omega) _).set (k * 2 + 1) (by omega) _, by simpa [World.setCell] using hz2, ?_, (S2.setFar (p := ⟨w.heap.size + 1, k * 2, none⟩) (by simp [Far, It.box, It.read]) (by simp) _).setFar (p := ⟨w.heap.size + 1, k * 2 + 1, none⟩) (by simp [Far, It.box, It.read]) (by simp) _⟩
        intro i hi
        by_cases e : i = k
        · subst e
          simp [X.out]
        · obtain ⟨g1, g2⟩ := F.out i (by omega)
          simp only [show ¬ i * 2 = k * 2 + 1 by omega, show ¬ i * 2 = k * 2 by omega, show ¬ i * 2 + 1 = k * 2 + 1 by omega, show ¬ i * 2 + 1 = k * 2 by omega, if_false]
          exact ⟨g1, g2⟩
      case measure => simp [intOf]; omega
    · go_wp2
      go_ret
      have e : k = T.zs.length := by omega
      refine ⟨w.heap.size + 1, rfl, by omega, hz, fun i hi => ?_, hst.old⟩
      obtain ⟨g1, g2⟩ := F.out i (by omega)
      exact ⟨by rw [(R.out (i * 2) (by omega)).1, g1], by rw [(R.out (i * 2 + 1) (by omega)).1, g2]⟩

theorem RingAt.below {w w' : World} {g : Nat} {T : Tab} (h : RingAt w g T) (hb : Below w.heap.size w w') (hz : g < w.heap.size) : RingAt w' g T :=
  fun i hi => ⟨(hb.cell (p := ⟨g, i * 2, none⟩) hz).trans (h i hi).1, (hb.cell (p := ⟨g, i * 2 + 1, none⟩) hz).trans (h i hi).2⟩

end Go.Proofs.YtfkdandmedojpaaDoor

/-
  The law files' own helpers on slices of integers and on tables: eqIntS, markIntS, heldIntS and what is built on them.
-/
import Derived.Test.YtfkdandmedojpaaSmall
import Derived.Deep.QuietTactic
import Derived.BigQuiet
namespace Go.Proofs.Ytfkdandmedojpaa
open Go.RowKit

/-- The cells at a hold the integers zs. Nothing is asked of a where there are none. -/
def IntsAt (w : World) (a : Option Addr) (zs : List Int) : Prop :=
  0 < zs.length → ∃ b off, a = some ⟨b, off, none⟩ ∧ ∀ j, j < zs.length → w.cell? ⟨b, off + j, none⟩ = some (.int .i64 (zs[j]?.getD 0))

/-- Slot k, under a name. -/
theorem IntsAt.at {w : World} {a : Option Addr} {zs : List Int} (h : IntsAt w a zs) {k : Nat} (hk : k < zs.length) :
    ∃ b o x, a = some ⟨b, o, none⟩ ∧ w.cell? ⟨b, o + k, none⟩ = some (.int .i64 x) ∧ Hid (nth zs k = x) :=
  let ⟨b, o, e, hc⟩ := h (by omega)
  ⟨b, o, _, e, hc k hk, rfl⟩

theorem IntsAt.drewN {w : World} {a : Option Addr} {zs : List Int} (h : IntsAt w a zs) (n : Nat) : IntsAt (w.drewN n) a zs := h

theorem IntsAt.below {w w' : World} {a : Option Addr} {zs : List Int} (h : IntsAt w a zs) (hb : Below w.heap.size w w') : IntsAt w' a zs := by
  intro h0
  obtain ⟨b, off, rfl, hc⟩ := h h0
  refine ⟨b, off, rfl, fun j hj => ?_⟩
  rw [hb.cell (World.block_lt_of_cell? w _ (hc j hj))]
  exact hc j hj

theorem below_drewN {B : Nat} {a w : World} (h : Below B a w) (n : Nat) : Below B a (w.drewN n) := ⟨h.os, h.tape, h.output, h.size, h.block⟩

theorem drewN_two (w : World) (n k : Nat) : ∃ m, (w.drewN n).drewN k = w.drewN m := ⟨n + k, by simp⟩

theorem take_eq_step (xs ys : List Int) (k : Nat) (hx : k < xs.length) (hy : k < ys.length) (h : xs.take k = ys.take k) (he : xs[k]?.getD 0 = ys[k]?.getD 0) : xs.take (k + 1) = ys.take (k + 1) := by
  rw [List.take_add_one, List.take_add_one, h, List.getElem?_eq_getElem hx, List.getElem?_eq_getElem hy]
  rw [List.getElem?_eq_getElem hx, List.getElem?_eq_getElem hy] at he
  show _ ++ [_] = _ ++ [_]
  rw [show xs[k] = ys[k] from he]

theorem eq_at_step (xs ys : List Int) (k : Nat) (hx : k < xs.length) (hy : k < ys.length) (h : xs.take k = ys.take k) (he : (xs[k] != ys[k]) = false) : xs.take (k + 1) = ys.take (k + 1) := by
  refine take_eq_step xs ys k hx hy h ?_
  simp [List.getElem?_eq_getElem hx, List.getElem?_eq_getElem hy] at he ⊢
  exact he
theorem eq_at_ne (xs ys : List Int) (k : Nat) (hx : k < xs.length) (hy : k < ys.length) (he : (xs[k] != ys[k]) = true) : false = decide (xs = ys) := by
  have : xs ≠ ys := by
    intro h
    subst h
    simp at he
  simp [this]

set_option maxHeartbeats 400000 in
theorem eqIntS_any (a1 a2 : Option Addr) (c1 c2 : Nat) (xs ys : List Int) (w : World) (hx : xs.length ≤ 9223372036854775807) (_hy : ys.length ≤ 9223372036854775807)
    (h1 : IntsAt w a1 xs) (h2 : IntsAt w a2 ys) :
    Calls Try.prog 58 #[.slice a1 xs.length c1, .slice a2 ys.length c2] w fun e w' => e = .returned (.bool (decide (xs = ys))) ∧ ∃ n, w' = w.drewN n := by
  by_cases hl : xs.length = ys.length
  · have hl1 : ((xs.length : Int) != (ys.length : Int)) = false := by simp [hl]
    have H : Hid (xs.length = ys.length) := Lib.hid hl
    clear hl
    go_enter Try.func58, Try.ntmps58
    go_wp2
    go_loopw [5] (fun i wr => ∃ k n : Nat, k ≤ xs.length ∧ i = .int .i64 k ∧ xs.take k = ys.take k ∧ wr = w.drewN n) (fun i _ => xs.length - (intOf i).toNat)
    case atStart => exact ⟨0, 0, Nat.zero_le _, rfl, rfl, rfl⟩
    case round =>
      obtain ⟨k, n, hk, rfl, ht, rfl⟩ := hrel
      have HT := Lib.hid ht
      clear ht
      by_cases hlt : k < xs.length
      · obtain ⟨b1, o1, rfl, hc1⟩ := h1 (by omega)
        obtain ⟨b2, o2, rfl, hc2⟩ := h2 (by have := H.out; omega)
        have hlt2 : k < ys.length := by have := H.out; omega
        have q1 : w.cell? ⟨b1, o1 + k, none⟩ = some (.int .i64 (xs[k]?.getD 0)) := hc1 k hlt
        have q2 : w.cell? ⟨b2, o2 + k, none⟩ = some (.int .i64 (ys[k]?.getD 0)) := hc2 k hlt2
        have C1 := Lib.hid hc1
        have C2 := Lib.hid hc2
        clear hc1 hc2
        go_wp2
        go_quiet (fail)
        go_wp2
        · have hne : (xs[k] != ys[k]) = true := by assumption
          go_ret
          exact ⟨ret_bool (eq_at_ne xs ys k hlt hlt2 hne), drewN_two _ _ _⟩
        · have heq : (xs[k] != ys[k]) = false := by assumption
          go_roundw
          case rel => exact ⟨k + 1, _, by omega, by go_num, eq_at_step xs ys k hlt hlt2 HT.out heq, rfl⟩
          case measure => simp [intOf]; omega
      · go_wp2
        go_ret
        have e : k = xs.length := by omega
        have ht := HT.out
        rw [e, List.take_length, H.out, List.take_length] at ht
        exact ⟨ret_bool (by simp [ht]), _, rfl⟩
  · have hl1 : ((xs.length : Int) != (ys.length : Int)) = true := by simp; omega
    have hne : decide (xs = ys) = false := by simp; intro h; exact hl (by rw [h])
    go_enter Try.func58, Try.ntmps58
    go_wp2
    go_ret
    exact ⟨ret_bool hne.symm, 0, rfl⟩

set_option maxHeartbeats 400000 in
theorem heldIntS_any (a : Option Addr) (c : Nat) (xs : List Int) (m : Int) (w : World) (hx : xs.length ≤ 1073741824) (hm0 : 0 ≤ m) (hm : m ≤ 1073741824) (h1 : IntsAt w a xs)
    (hval : ∀ j, j < xs.length → xs[j]?.getD 0 = m + j) :
    Calls Try.prog 60 #[.slice a xs.length c, .int .i64 m] w fun e w' => e = .returned (.int .i64 (m + xs.length)) ∧ ∃ n, w' = w.drewN n := by
  have HV := Lib.hid hval
  clear hval
  go_enter Try.func60, Try.ntmps60
  go_wp2
  go_loopw [1, 5] (fun k i wr => ∃ j n : Nat, j ≤ xs.length ∧ i = .int .i64 j ∧ k = .int .i64 (m + j) ∧ wr = w.drewN n) (fun _ i _ => xs.length - (intOf i).toNat)
  case atStart => exact ⟨0, 0, Nat.zero_le _, rfl, by simp, rfl⟩
  case round =>
    obtain ⟨j, n, hj, rfl, rfl, rfl⟩ := hrel
    by_cases hlt : j < xs.length
    · obtain ⟨b1, o1, rfl, hc1⟩ := h1 (by omega)
      have q1 : w.cell? ⟨b1, o1 + j, none⟩ = some (.int .i64 (m + j)) := by rw [hc1 j hlt, HV.out j hlt]
      have C1 := Lib.hid hc1
      clear hc1
      go_wp2
      go_roundw
      case rel => exact ⟨j + 1, _, by omega, by go_num, by go_num, rfl⟩
      case measure => simp [intOf]; omega
    · go_wp2
      go_ret
      have e : j = xs.length := by omega
      exact ⟨ret_int (by rw [e]), _, rfl⟩

/-- Cells of blocks from base on, which may be written: they hold the integers zs. -/
def OwnInts (w : World) (base : Nat) (a : Option Addr) (zs : List Int) : Prop :=
  (∀ p, a = some p → base ≤ p.block ∧ p.block < w.heap.size) ∧
  (0 < zs.length → ∃ b off, a = some ⟨b, off, none⟩ ∧ (∀ j, j < zs.length → w.cell? ⟨b, off + j, none⟩ = some (.int .i64 (zs[j]?.getD 0))) ∧ (∀ j, j < zs.length → w.frozen? ⟨b, off + j, none⟩ = false))

theorem OwnInts.ints {w : World} {base : Nat} {a : Option Addr} {zs : List Int} (h : OwnInts w base a zs) : IntsAt w a zs := fun h0 =>
  let ⟨b, off, e, hc, _⟩ := h.2 h0
  ⟨b, off, e, hc⟩

theorem OwnInts.mono {w : World} {base base' : Nat} {a : Option Addr} {zs : List Int} (h : OwnInts w base a zs) (hb : base' ≤ base) : OwnInts w base' a zs :=
  ⟨fun p hp => ⟨Nat.le_trans hb (h.1 p hp).1, (h.1 p hp).2⟩, h.2⟩

theorem OwnInts.nil (w : World) (base : Nat) : OwnInts w base none [] := ⟨fun _ h => (by cases h), fun h => (by simp at h)⟩

/-- Nothing that may be written but the row's own block has turned. -/
theorem OwnInts.keep {w w' : World} {base : Nat} {a : Option Addr} {zs : List Int} (h : OwnInts w base a zs) (hz : w.heap.size ≤ w'.heap.size) (hs : ∀ k, base ≤ k → k < w.heap.size → w'.heap[k]? = w.heap[k]?) : OwnInts w' base a zs := by
  refine ⟨fun p hp => ⟨(h.1 p hp).1, Nat.lt_of_lt_of_le (h.1 p hp).2 hz⟩, fun h0 => ?_⟩
  obtain ⟨b, off, rfl, hc, hf⟩ := h.2 h0
  have hb := h.1 _ rfl
  exact ⟨b, off, rfl, fun j hj => (World.cell?_of_block (w := w) (a := ⟨b, off + j, none⟩) (hs b hb.1 hb.2)).trans (hc j hj), fun j hj => (World.frozen?_of_block (w := w) (a := ⟨b, off + j, none⟩) (hs b hb.1 hb.2)).trans (hf j hj)⟩

theorem OwnInts.below {w w' : World} {base : Nat} {a : Option Addr} {zs : List Int} (h : OwnInts w base a zs) (hb : Below w.heap.size w w') : OwnInts w' base a zs :=
  h.keep hb.size fun k _ hk => hb.block k hk

theorem OwnInts.setOther {w : World} {base : Nat} {a : Option Addr} {zs : List Int} (h : OwnInts w base a zs) {p : Addr} (hp : p.block < base) (v : Value) : OwnInts (w.setCell p v) base a zs :=
  h.keep (by simp [World.setCell]) fun k hk _ => Below.heap_setCell w p v k (by omega)

theorem OwnInts.set {w : World} {base : Nat} {b off : Nat} {zs : List Int} (h : OwnInts w base (some ⟨b, off, none⟩) zs) (k : Nat) (hk : k < zs.length) (v : Int) :
    OwnInts (w.setCell ⟨b, off + k, none⟩ (.int .i64 v)) base (some ⟨b, off, none⟩) (zs.set k v) := by
  refine ⟨by simpa [World.setCell] using h.1, fun _ => ?_⟩
  obtain ⟨b', off', e, hc, hf⟩ := h.2 (by omega)
  cases e
  refine ⟨b, off, rfl, fun j hj => ?_, fun j hj => ?_⟩
  · simp only [List.length_set] at hj
    by_cases hjk : j = k
    · subst hjk
      rw [World.cell?_setCell_same _ _ _ (hc j hj)]
      simp [hj]
    · rw [World.cell?_setCell_other _ _ _ _ (by simp only [ne_eq, Addr.mk.injEq, true_and, and_true]; omega), hc j hj]
      simp [List.getElem?_set, Ne.symm hjk]
  · simp only [List.length_set] at hj
    rw [World.frozen?_setCell]; exact hf j hj

theorem grown_set {w wr : World} {row : Option Nat} {p : Addr} (h : w.grownBy wr row) (hp : row = some p.block) (v : Value) : w.grownBy (wr.setCell p v) row :=
  ⟨h.os, h.tape, h.output, by simpa [World.setCell] using h.size, fun k hk hne => (Below.heap_setCell wr p v k (fun e => hne (by rw [hp, e]))).trans (h.block k hk hne)⟩

theorem grownBy_trans {a b c : World} {row : Option Nat} (h : a.grownBy b row) (k : b.grownBy c row) : a.grownBy c row :=
  ⟨k.os.trans h.os, k.tape.trans h.tape, k.output.trans h.output, Nat.le_trans h.size k.size, fun i hi hne => (k.block i (Nat.lt_of_lt_of_le hi h.size) hne).trans (h.block i hi hne)⟩

theorem IntsAt.grown {w w' : World} {row : Option Nat} {a : Option Addr} {zs : List Int} (h : IntsAt w a zs) (hg : w.grownBy w' row) (hne : 0 < zs.length → a.map Addr.block ≠ row) : IntsAt w' a zs := by
  intro h0
  obtain ⟨b, off, rfl, hc⟩ := h h0
  exact ⟨b, off, rfl, fun j hj => hg.cell (hc j hj) (hne h0)⟩

theorem marks_done (m : Int) (zs : List Int) (h : ∀ i, i < zs.length → zs[i]?.getD 0 = m + i) : zs = (List.range zs.length).map (fun i : Nat => m + i) := by
  apply List.ext_getElem (by simp)
  intro i h1 h2
  have := h i h1
  simpa [List.getElem?_eq_getElem h1] using this

theorem set_marks (m : Int) (zs : List Int) (j : Nat) (hj : j < zs.length) (h : ∀ i, i < j → zs[i]?.getD 0 = m + i) : ∀ i, i < j + 1 → (zs.set j (m + j))[i]?.getD 0 = m + i := by
  intro i hi
  by_cases e : i = j
  · subst e; simp [hj]
  · rw [List.getElem?_set, if_neg (by omega)]; exact h i (by omega)

set_option maxHeartbeats 400000 in
theorem markIntS_any (base : Nat) (a : Option Addr) (c : Nat) (xs : List Int) (m : Int) (w : World) (hx : xs.length ≤ 1073741824) (hm0 : 0 ≤ m) (hm : m ≤ 1073741824) (h1 : OwnInts w base a xs) :
    Calls Try.prog 59 #[.slice a xs.length c, .int .i64 m] w fun e w' => e = .returned (.int .i64 (m + xs.length)) ∧
      OwnInts w' base a ((List.range xs.length).map (fun i : Nat => m + i)) ∧ w.grownBy w' (a.map Addr.block) := by
  have H1 := Lib.hid h1
  clear h1
  go_enter Try.func59, Try.ntmps59
  go_wp2
  go_loopw [1, 5] (fun k i wr => ∃ (j : Nat) (zs : List Int), j ≤ xs.length ∧ i = .int .i64 j ∧ k = .int .i64 (m + j) ∧ zs.length = xs.length ∧ OwnInts wr base a zs ∧ (∀ i, i < j → zs[i]?.getD 0 = m + i) ∧ w.grownBy wr (a.map Addr.block)) (fun _ i _ => xs.length - (intOf i).toNat)
  case atStart => exact ⟨0, xs, Nat.zero_le _, rfl, by simp, rfl, H1.out, by omega, ⟨rfl, rfl, rfl, Nat.le_refl _, fun _ _ _ => rfl⟩⟩
  case round =>
    obtain ⟨j, zs, hj, rfl, rfl, hl, ho, hz, hg⟩ := hrel
    have HL := Lib.hid hl
    have HO := Lib.hid ho
    have HZ := Lib.hid hz
    have HG := Lib.hid hg
    by_cases hlt : j < xs.length
    · obtain ⟨b1, o1, rfl, hc1, hf1⟩ := ho.2 (by omega)
      have q1 := hc1 j (by omega)
      have q2 := hf1 j (by omega)
      clear hc1 hf1 hl ho hz hg
      go_wp2
      go_roundw
      case rel =>
        have hl := HL.out
        exact ⟨j + 1, zs.set j (m + j), by omega, by go_num, by go_num, by simp [hl], HO.out.set j (by omega) _, set_marks m zs j (by omega) HZ.out, grown_set (p := ⟨b1, o1 + j, none⟩) HG.out rfl _⟩
      case measure => simp [intOf]; omega
    · clear hl ho hz hg
      go_wp2
      go_ret
      have e : j = xs.length := by omega
      have hl := HL.out
      refine ⟨ret_int (by rw [e]), ?_, HG.out⟩
      rw [← hl, ← marks_done m zs (fun i hi => HZ.out i (by omega))]
      exact HO.out

theorem grownBy_below {w w' : World} {base : Nat} {row : Option Nat} (h : w.grownBy w' row) (hb : base ≤ w.heap.size) (hr : ∀ k, row = some k → base ≤ k) : Below base w w' :=
  ⟨h.os, h.tape, h.output, h.size, fun k hk => h.block k (by omega) (fun e => by have := hr k e.symm; omega)⟩

set_option maxHeartbeats 400000 in
theorem eqTable_any (a1 a2 : Option Addr) (c1 c2 : Nat) (t1 p1 t2 p2 : Int) (xs ys : List Int) (w : World) (hx : xs.length ≤ 1073741824) (hy : ys.length ≤ 1073741824)
    (h1 : IntsAt w a1 xs) (h2 : IntsAt w a2 ys) :
    Calls Try.prog 27 #[.agg #[.int .i64 t1, .int .i64 p1, .slice a1 xs.length c1], .agg #[.int .i64 t2, .int .i64 p2, .slice a2 ys.length c2]] w
      fun e w' => e = .returned (.bool (decide (t1 = t2) && decide (p1 = p2) && decide (xs = ys))) ∧ Below w.heap.size w w' := by
  by_cases ht : t1 = t2
  · subst ht
    by_cases hp : p1 = p2
    · subst hp
      go_enter Try.func27, Try.ntmps27
      go_wp2_with fail
      refine (eqIntS_any a1 a2 c1 c2 xs ys _ (by omega) (by omega) (by exact h1.below (((Below.refl _ _).alloc (Nat.le_refl _) _).alloc (by simp) _)) (by exact h2.below (((Below.refl _ _).alloc (Nat.le_refl _) _).alloc (by simp) _))).mono ?_
      rintro e w' ⟨rfl, nq, rfl⟩
      cases hd : decide (xs = ys)
      all_goals
        go_wp2
        go_ret
        exact ⟨ret_bool (by rw [hd]; simp), below_drewN (((Below.refl _ _).alloc (Nat.le_refl _) _).alloc (by simp) _) _⟩
    · have hp1 : (p1 != p2) = true := by simpa using hp
      go_enter Try.func27, Try.ntmps27
      go_wp2
      go_ret
      exact ⟨ret_bool (by simp [hp]), (((Below.refl _ _).alloc (Nat.le_refl _) _).alloc (by simp) _)⟩
  · have ht1 : (t1 != t2) = true := by simpa using ht
    go_enter Try.func27, Try.ntmps27
    go_wp2
    go_ret
    exact ⟨ret_bool (by simp [ht]), (((Below.refl _ _).alloc (Nat.le_refl _) _).alloc (by simp) _)⟩

set_option maxHeartbeats 400000 in
theorem markTable_any (base : Nat) (t p : Int) (a : Option Addr) (c : Nat) (xs : List Int) (m : Int) (w : World) (hx : xs.length ≤ 1073741824) (hm0 : 0 ≤ m) (hm : m ≤ 1073741824) (h1 : OwnInts w base a xs) :
    Calls Try.prog 28 #[.agg #[.int .i64 t, .int .i64 p, .slice a xs.length c], .int .i64 m] w fun e w' => e = .returned (.int .i64 (m + xs.length)) ∧
      OwnInts w' base a ((List.range xs.length).map (fun i : Nat => m + i)) ∧ w.grownBy w' (a.map Addr.block) := by
  go_enter Try.func28, Try.ntmps28
  go_wp2_with fail
  refine (markIntS_any base a c xs m _ hx hm0 hm (by exact h1.below ((Below.refl _ _).alloc (Nat.le_refl _) _))).mono ?_
  rintro e w' ⟨rfl, ho, hg⟩
  go_wp2
  go_ret
  exact ⟨rfl, ho, grownBy_trans (World.grownBy_alloc w _ _) hg⟩

set_option maxHeartbeats 400000 in
theorem heldTable_any (t p : Int) (a : Option Addr) (c : Nat) (xs : List Int) (m : Int) (w : World) (hx : xs.length ≤ 1073741824) (hm0 : 0 ≤ m) (hm : m ≤ 1073741824) (h1 : IntsAt w a xs)
    (hval : ∀ j, j < xs.length → xs[j]?.getD 0 = m + j) :
    Calls Try.prog 29 #[.agg #[.int .i64 t, .int .i64 p, .slice a xs.length c], .int .i64 m] w fun e w' => e = .returned (.int .i64 (m + xs.length)) ∧ Below w.heap.size w w' := by
  have HV := Lib.hid hval
  clear hval
  go_enter Try.func29, Try.ntmps29
  go_wp2_with fail
  refine (heldIntS_any a c xs m _ hx hm0 hm (by exact h1.below ((Below.refl _ _).alloc (Nat.le_refl _) _)) HV.out).mono ?_
  rintro e w' ⟨rfl, nq, rfl⟩
  go_wp2
  go_ret
  exact ⟨rfl, below_drewN ((Below.refl _ _).alloc (Nat.le_refl _) _) _⟩

end Go.Proofs.Ytfkdandmedojpaa

/-
  The law files' own helpers on slices of runs: eqRun, eqRunS, markRunS, heldRunS. A slice of n runs is 2 n integers.
-/
import Derived.Test.YtpbffdjiijpigaaIntsW
import Derived.Test.YtpbffdjiijpigaaRunsOfI
namespace Go.Proofs.Ytpbffdjiijpigaa
open Go.RowKit

/-- The integers of some runs. -/
def flatR (rs : List (Nat × Nat)) : List Int := (rs.map fun r => [(r.1 : Int), (r.2 : Int)]).flatten
theorem flatR_len (rs : List (Nat × Nat)) : (flatR rs).length = rs.length * 2 := by
  induction rs with
  | nil => rfl
  | cons r rs ih => simp [flatR] at ih ⊢; omega
theorem cellsR_flat (rs : List (Nat × Nat)) : cellsR rs = (flatR rs).map (Value.int .i64) := by
  simp [cellsR, flatR, List.map_flatten, Function.comp_def]

/-- What a row of runs owns. -/
theorem runs_own {w : World} {base : Nat} {a : Option Addr} {c : Nat} {rs : List (Nat × Nat)} (h : w.ownsRow base 37 2 (.slice a rs.length c) rs.length (cellsR rs)) : OwnInts w base a (flatR rs) := by
  refine ⟨fun p hp => ?_, fun h0 => ?_⟩
  · have := h.lt p.block (by rw [hp]; rfl)
    exact this
  · rcases h.2 with ⟨e, e0⟩ | ⟨g, cap, cur, e, hb, hg, _, _, hs, ht⟩
    · rw [flatR_len, e0] at h0; omega
    · cases e
      have key : ∀ j, j < (flatR rs).length → cur[j]? = some (.int .i64 (nth (flatR rs) j)) := by
        intro j hj
        have h1 : (cur.toList.take (rs.length * 2))[j]? = (cellsR rs)[j]? := by rw [ht]
        rw [List.getElem?_take, if_pos (by rw [flatR_len] at hj; exact hj), cellsR_flat, List.getElem?_map, List.getElem?_eq_getElem hj] at h1
        simpa [nth, List.getElem?_eq_getElem hj] using h1
      exact ⟨g, 0, rfl, fun j hj => by rw [Nat.zero_add]; simp [World.cell?, hg, key j hj], fun j hj => by simp [World.frozen?, hg]⟩

theorem eqRun_same (x y : Int) (w : World) :
    Calls Try.prog 21 #[.agg #[.int .i64 x, .int .i64 y], .agg #[.int .i64 x, .int .i64 y]] w fun e w' => e = .returned (.bool true) ∧ Below w.heap.size w w' := by
  go_enter Try.func21, Try.ntmps21
  go_wp2
  go_ret
  exact ⟨rfl, ((Below.refl _ _).alloc (Nat.le_refl _) _).alloc (by simp) _⟩

theorem IntsAt.two {w : World} {a : Option Addr} {zs : List Int} {n : Nat} (h : IntsAt w a zs) (hn : zs.length = n * 2) {j : Nat} (hj : j < n) :
    ∃ b o x y, a = some ⟨b, o, none⟩ ∧ w.cell? ⟨b, o + j * 2, none⟩ = some (.int .i64 x) ∧ w.cell? ⟨b, o + j * 2 + 1, none⟩ = some (.int .i64 y) ∧ Hid (nth zs (j * 2) = x ∧ nth zs (j * 2 + 1) = y) :=
  let ⟨b, o, e, hc⟩ := h (by omega)
  ⟨b, o, _, _, e, hc (j * 2) (by omega), by have := hc (j * 2 + 1) (by omega); rwa [← Nat.add_assoc] at this, ⟨rfl, rfl⟩⟩

set_option maxHeartbeats 1000000 in
theorem eqRunS_same (zs : List Int) (n : Nat) (hn : zs.length = n * 2) (a1 a2 : Option Addr) (c1 c2 : Nat) (w : World) (hx : n ≤ 1073741824) (h1 : IntsAt w a1 zs) (h2 : IntsAt w a2 zs) :
    Calls Try.prog 14 #[.slice a1 n c1, .slice a2 n c2] w fun e w' => e = .returned (.bool true) ∧ Below w.heap.size w w' := by
  have H1 := Lib.hid h1
  have H2 := Lib.hid h2
  have HN := Lib.hid hn
  clear h1 h2 hn
  go_enter Try.func14, Try.ntmps14
  go_wp2
  go_loopw [5] (fun i wr => ∃ j : Nat, j ≤ n ∧ i = .int .i64 j ∧ Below w.heap.size w wr) (fun i _ => n - (intOf i).toNat)
  case atStart => exact ⟨0, Nat.zero_le _, rfl, Below.refl _ _⟩
  case round =>
    obtain ⟨j, hj, rfl, hb⟩ := hrel
    by_cases hlt : j < n
    · obtain ⟨b1, o1, x, y, rfl, p0, p1, X⟩ := (H1.out.below hb).two HN.out hlt
      obtain ⟨b2, o2, x', y', rfl, q0, q1, Y⟩ := (H2.out.below hb).two HN.out hlt
      obtain rfl : x = x' := X.out.1.symm.trans Y.out.1
      obtain rfl : y = y' := X.out.2.symm.trans Y.out.2
      have HB := Lib.hid hb
      clear hb
      go_wp2_with fail
      go_region_held3 (fun w' => w'.cell? ⟨b1, o1 + j * 2, none⟩ = some (.int .i64 x) ∧ w'.cell? ⟨b1, o1 + j * 2 + 1, none⟩ = some (.int .i64 y) ∧ w'.cell? ⟨b2, o2 + j * 2, none⟩ = some (.int .i64 x) ∧ w'.cell? ⟨b2, o2 + j * 2 + 1, none⟩ = some (.int .i64 y))
        (first
          | exact ⟨p0, p1, q0, q1⟩
          | exact ⟨(hb7.cell (World.block_lt_of_cell? wr _ p0)).trans p0, (hb7.cell (World.block_lt_of_cell? wr _ p1)).trans p1, (hb7.cell (World.block_lt_of_cell? wr _ q0)).trans q0, (hb7.cell (World.block_lt_of_cell? wr _ q1)).trans q1⟩)
        (first
          | (go_at_call 21; refine (eqRun_same x y _).mono ?_; rintro e w7 ⟨rfl, hb7⟩))
      have B7 := (HB.out.drew).trans (hb7.mono HB.out.size)
      clear p0 p1 q0 q1 hb7
      go_wp2
      go_roundw
      case rel => exact ⟨j + 1, by omega, by go_num, B7⟩
      case measure => simp [intOf]; omega
    · go_wp2
      go_ret
      exact ⟨rfl, hb⟩

set_option maxHeartbeats 1000000 in
theorem markRunS_any (base : Nat) (a : Option Addr) (c : Nat) (xs : List Int) (n : Nat) (hn : xs.length = n * 2) (m : Int) (w : World) (hx : n ≤ 1073741824) (hm0 : 0 ≤ m) (hm : m ≤ 1073741824) (h1 : OwnInts w base a xs) :
    Calls Try.prog 17 #[.slice a n c, .int .i64 m] w fun e w' => e = .returned (.int .i64 (m + (n * 2 : Nat))) ∧
      OwnInts w' base a ((List.range (n * 2)).map (fun i : Nat => m + i)) ∧ w.grownBy w' (a.map Addr.block) := by
  have H1 := Lib.hid h1
  have HN := Lib.hid hn
  clear h1 hn
  go_enter Try.func17, Try.ntmps17
  go_wp2
  go_loopw [1, 5] (fun k i wr => ∃ (j : Nat) (zs : List Int), j ≤ n ∧ i = .int .i64 j ∧ k = .int .i64 (m + (j * 2 : Nat)) ∧ zs.length = n * 2 ∧ OwnInts wr base a zs ∧ (∀ i, i < j * 2 → zs[i]?.getD 0 = m + i) ∧ w.grownBy wr (a.map Addr.block)) (fun _ i _ => n - (intOf i).toNat)
  case atStart => exact ⟨0, xs, Nat.zero_le _, rfl, by simp, HN.out, H1.out, by omega, ⟨rfl, rfl, rfl, Nat.le_refl _, fun _ _ _ => rfl⟩⟩
  case round =>
    obtain ⟨j, zs, hj, rfl, rfl, hl, ho, hz, hg⟩ := hrel
    have HL := Lib.hid hl
    have HO := Lib.hid ho
    have HZ := Lib.hid hz
    have HG := Lib.hid hg
    by_cases hlt : j < n
    · obtain ⟨b1, o1, rfl, hc1, hf1⟩ := ho.2 (by omega)
      have q1 := hc1 (j * 2) (by omega)
      have q2 := hf1 (j * 2) (by omega)
      have q3 := hc1 (j * 2 + 1) (by omega)
      have q4 := hf1 (j * 2 + 1) (by omega)
      rw [← Nat.add_assoc] at q3 q4
      clear hc1 hf1 hl ho hz hg
      generalize zs[j * 2]?.getD 0 = x at q1
      generalize zs[j * 2 + 1]?.getD 0 = y at q3
      go_wp2_with fail
      go_roundw
      case rel =>
        have hl := HL.out
        have o2 := (HO.out.set (j * 2) (by omega) (m + (j * 2 : Nat))).set (j * 2 + 1) (by rw [List.length_set]; omega) (m + (j * 2 + 1 : Nat))
        have z2 := set_marks m _ (j * 2 + 1) (by rw [List.length_set]; omega) (set_marks m zs (j * 2) (by omega) HZ.out)
        rw [← Nat.add_assoc] at o2
        exact ⟨j + 1, _, by omega, by go_num, by go_num, by simp [hl], by simpa [Int.add_assoc] using o2, fun i hi => z2 i (by omega), grown_set (p := ⟨b1, o1 + j * 2 + 1, none⟩) (grown_set (p := ⟨b1, o1 + j * 2, none⟩) HG.out rfl _) rfl _⟩
      case measure => simp [intOf]; omega
    · clear hl ho hz hg
      go_wp2
      go_ret
      have e : j = n := by omega
      have hl := HL.out
      refine ⟨ret_int (by rw [e]), ?_, HG.out⟩
      rw [← hl, ← marks_done m zs (fun i hi => HZ.out i (by omega))]
      exact HO.out

set_option maxHeartbeats 1000000 in
theorem heldRunS_marks (a : Option Addr) (n c : Nat) (w : World) (hx : n ≤ 1073741824) (h1 : IntsAt w a ((List.range (n * 2)).map (fun i : Nat => (1 : Int) + i))) :
    Calls Try.prog 18 #[.slice a n c, .int .i64 1] w fun e w' => e = .returned (.int .i64 (1 + (n * 2 : Nat))) ∧ Below w.heap.size w w' := by
  have H1 := Lib.hid h1
  clear h1
  go_enter Try.func18, Try.ntmps18
  go_wp2
  go_loopw [1, 5] (fun k i wr => ∃ j : Nat, j ≤ n ∧ i = .int .i64 j ∧ k = .int .i64 (1 + (j * 2 : Nat)) ∧ w = wr) (fun _ i _ => n - (intOf i).toNat)
  case atStart => exact ⟨0, Nat.zero_le _, rfl, by simp, rfl⟩
  case round =>
    obtain ⟨j, hj, rfl, rfl, rfl⟩ := hrel
    by_cases hlt : j < n
    · obtain ⟨b1, o1, x, y, rfl, p0, p1, X⟩ := H1.out.two (by simp) hlt
      obtain rfl : (1 : Int) + (j * 2 : Nat) = x := by rw [← X.out.1]; simp [nth, show j * 2 < n * 2 by omega]
      obtain rfl : (1 : Int) + (j * 2 + 1 : Nat) = y := by rw [← X.out.2]; simp [nth, show j * 2 + 1 < n * 2 by omega]
      rw [show (1 : Int) + (j * 2 + 1 : Nat) = 1 + (j * 2 : Nat) + 1 by omega] at p1
      go_wp2_with fail
      go_roundw
      case rel => exact ⟨j + 1, by omega, by go_num, by go_num, trivial⟩
      case measure => simp [intOf]; omega
    · go_wp2
      go_ret
      have e : j = n := by omega
      exact ⟨ret_int (by rw [e]), Below.refl _ _⟩

end Go.Proofs.Ytpbffdjiijpigaa

/-
  PlaceFor of the model.
-/
import Derived.Test.YtblkafmamnimjaaGreatDoorFindS
namespace Go.Proofs.YtblkafmamnimjaaGreatDoor
open Go.RowKit

theorem firstLow_hit {zs way : List Int} {k : Nat} {v : Int} (hk : k < way.length) (hf : ∀ i, i < k → ¬ nth zs (nth way i).toNat < 0) (hv : nth way k = v) (h : nth zs v.toNat < 0) : firstLow zs way = v := by
  induction way generalizing k with
  | nil => simp at hk
  | cons x way ih =>
    unfold firstLow
    cases k with
    | zero =>
      have : x = v := by simpa [nth] using hv
      subst this
      rw [List.find?_cons_of_pos (by simpa using h)]
      rfl
    | succ k =>
      have h0 := hf 0 (Nat.succ_pos k)
      rw [List.find?_cons_of_neg (by simpa [nth] using h0)]
      exact ih (k := k) (by simpa using hk) (fun i hi => by simpa [nth] using hf (i + 1) (by omega)) (by simpa [nth] using hv)

theorem firstLow_none {zs way : List Int} (hf : ∀ i, i < way.length → ¬ nth zs (nth way i).toNat < 0) : firstLow zs way = -1 := by
  induction way with
  | nil => rfl
  | cons x way ih =>
    unfold firstLow
    have h0 := hf 0 (by simp)
    rw [List.find?_cons_of_neg (by simpa [nth] using h0)]
    exact ih (fun i hi => by simpa [nth] using hf (i + 1) (by simp; omega))

theorem way_nth (T : Tab) (hv : validB T = true) (key : Int) {j : Nat} (hj : j < (wayOf T key).length) : ∃ k : Nat, nth (wayOf T key) j = (k : Int) ∧ k < T.zs.length := by
  obtain ⟨⟨l1, _⟩, _⟩ := valid_facts hv
  rw [wayOf, wayTo_len] at hj
  exact ⟨_, wayTo_nth hj, stepS_lt l1 _ _⟩

theorem placeI_no {T : Tab} {key : Int} (h : (validB T && inB key 0 99) = false ∨ 0 ≤ findI T key) : placeI T key = -1 := by
  unfold placeI
  rcases h with h | h
  · simp [h]
  · simp only [show ¬ findI T key < 0 by omega, decide_false, Bool.and_false]; rfl

theorem placeI_yes {T : Tab} {key : Int} (h : (validB T && inB key 0 99) = true) (h2 : findI T key < 0) : placeI T key = firstLow T.zs (wayOf T key) := by
  unfold placeI
  simp [h, h2]

set_option maxHeartbeats 2000000 in
theorem specPlaceFor_any (T : Tab) (a : Option Addr) (c : Nat) (key : Int) (w : World) (hx : T.zs.length ≤ 9223372036854775807) (h1 : IntsAt w a T.zs) :
    Calls Tryz.prog 71 #[tabV T a c, .int .i64 key] w fun e w' => e = .returned (.tuple #[.int .i64 (placeI T key), .bool (decide (0 ≤ placeI T key))]) ∧ Below w.heap.size w w' := by
  have S0 := ((St.start w).read h1).alloc #[.int .i64 T.t, .int .i64 T.p, .slice a T.zs.length c] 25
  cases hv : (validB T && inB key 0 99)
  · have R : Hid (placeI T key = -1) := Lib.hid (placeI_no (.inl hv))
    go_enter Tryz.func71, Tryz.ntmps71
    go_wp2_with fail
    refine (l2Asked_any T a c key _ hx (by exact S0.reads 1 rfl)).mono ?_
    rw [hv]
    rintro e w1 ⟨rfl, hb⟩
    have S1 := S0.below hb
    go_wp2
    go_ret2
    exact ⟨by rw [R.out]; rfl, S1.old⟩
  · obtain ⟨v1, k0, k9⟩ := asked_yes hv
    obtain ⟨⟨l1, l2⟩, _⟩ := valid_facts v1
    have HV := Lib.hid hv
    clear hv
    obtain ⟨fi, hfi⟩ : ∃ f, findI T key = f := ⟨_, rfl⟩
    by_cases hf : 0 ≤ fi
    · have R : Hid (placeI T key = -1) := Lib.hid (placeI_no (.inr (by rw [hfi]; exact hf)))
      go_enter Tryz.func71, Tryz.ntmps71
      go_wp2_with fail
      refine (l2Asked_any T a c key _ hx (by exact S0.reads 1 rfl)).mono ?_
      rw [HV.out]
      rintro e w1 ⟨rfl, hb⟩
      have S1 := S0.below hb
      clear S0 hb
      obtain ⟨x0, x1, x2, x3, x4, x5, xz⟩ := facts3 (S1.cells 0 rfl)
      go_wp2_with fail
      refine (l2Find_any T a c key _ v1 k0 k9 (by exact S1.reads 1 rfl)).mono ?_
      rw [hfi]
      rintro e w2 ⟨rfl, hb⟩
      have S2 := S1.below hb
      go_wp2
      go_ret2
      exact ⟨by rw [R.out]; rfl, S2.old⟩
    · have PY : Hid (placeI T key = firstLow T.zs (wayOf T key)) := Lib.hid (placeI_yes HV.out (by rw [hfi]; omega))
      obtain ⟨n, hn⟩ : ∃ n, (wayOf T key).length = n := ⟨_, rfl⟩
      have hn16 : n ≤ 16 := by
        have := (visN_bounds l1 key (homeN T key)).2
        rw [← hn, wayOf, wayTo_len]
        omega
      go_enter Tryz.func71, Tryz.ntmps71
      go_wp2_with fail
      refine (l2Asked_any T a c key _ hx (by exact S0.reads 1 rfl)).mono ?_
      rw [HV.out]
      rintro e w1 ⟨rfl, hb⟩
      have S1 := S0.below hb
      clear S0 hb
      obtain ⟨x0, x1, x2, x3, x4, x5, xz⟩ := facts3 (S1.cells 0 rfl)
      go_wp2_with fail
      refine (l2Find_any T a c key _ v1 k0 k9 (by exact S1.reads 1 rfl)).mono ?_
      rw [hfi]
      rintro e w2 ⟨rfl, hb⟩
      have S2 := S1.below hb
      clear S1 hb x0 x1 x2 x3 x4 x5 xz
      obtain ⟨x0, x1, x2, x3, x4, x5, xz⟩ := facts3 (S2.cells 0 rfl)
      go_wp2_with fail
      refine (l2Way_any T a c key _ v1 k0 k9 (by exact S2.reads 1 rfl)).mono ?_
      rw [hn]
      rintro e w3 ⟨g, c', rfl, ho, hb⟩
      have S3 := S2.below hb
      clear S2 hb x0 x1 x2 x3 x4 x5 xz
      obtain ⟨x0, x1, x2, x3, x4, x5, xz⟩ := facts3 (S3.cells 0 rfl)
      have OI := Lib.hid ho.ints
      have OT := Lib.hid (S3.reads 1 rfl)
      have OB := Lib.hid S3.old
      clear ho S3
      go_wp2_with fail
      go_loopw [22] (fun i wr => ∃ j : Nat, j ≤ n ∧ i = .int .i64 j ∧ w3 = wr ∧ Hid (∀ k, k < j → ¬ nth T.zs (nth (wayOf T key) k).toNat < 0)) (fun i _ => n - (intOf i).toNat)
      case atStart => exact ⟨0, Nat.zero_le _, rfl, rfl, Lib.hid (fun k hk => by omega)⟩
      case round =>
        obtain ⟨j, hj, rfl, rfl, HF⟩ := hrel
        by_cases hlt : j < n
        · obtain ⟨k, hk, hkl⟩ := way_nth T v1 key (by rw [hn]; exact hlt)
          obtain ⟨b2, o2, y2, e2, q2, Y2⟩ := OI.out.at (k := j) (by rw [hn]; exact hlt)
          cases e2
          have hy2 : y2 = (k : Int) := Y2.out.symm.trans hk
          subst hy2
          rw [Nat.zero_add] at q2
          obtain ⟨b, o, y, ea, q, Y⟩ := OT.out.at hkl
          subst ea
          by_cases hy : y < 0
          · have R : Hid (placeI T key = (k : Int)) := Lib.hid (by rw [PY.out]; exact firstLow_hit (by rw [hn]; exact hlt) HF.out hk (by rw [Int.toNat_natCast, Y.out]; exact hy))
            clear hk
            go_wp2
            go_ret2
            exact ⟨by rw [R.out]; simp, OB.out⟩
          · have HF2 : Hid (∀ i, i < j + 1 → ¬ nth T.zs (nth (wayOf T key) i).toNat < 0) := Lib.hid (fun i hi => by
              rcases Nat.lt_succ_iff_lt_or_eq.1 hi with h | rfl
              · exact HF.out i h
              · rw [hk, Int.toNat_natCast, Y.out]; exact hy)
            clear hk
            go_wp2
            go_roundw
            case rel => exact ⟨j + 1, by omega, by go_num, trivial, HF2⟩
            case measure => simp [intOf]; omega
        · have R : Hid (placeI T key = -1) := Lib.hid (by rw [PY.out]; exact firstLow_none (fun i hi => HF.out i (by rw [hn] at hi; omega)))
          go_wp2
          go_ret2
          exact ⟨by rw [R.out]; rfl, OB.out⟩

end Go.Proofs.YtblkafmamnimjaaGreatDoor

/-
  The law FnVisitsBound: the walk.
-/
import Derived.Test.YtpbffdjiijpigaaCame
import Derived.Test.YtpbffdjiijpigaaDraw2K
import Derived.Test.YtpbffdjiijpigaaBase
import Derived.Test.YtpbffdjiijpigaaCount
import Derived.Test.YtpbffdjiijpigaaVisits
import Derived.Test.YtpbffdjiijpigaaRunsOfI
import Derived.Test.YtpbffdjiijpigaaRunLawM
namespace Go.Proofs.Ytpbffdjiijpigaa
open Go.RowKit

/-- A statement; all that follows it once. -/
theorem wp_mid {P : Program} {s : Code} {K : Act → World → Prop} {Q : Exit → Act → World → Prop} {a : Act} {w : World} (M : Act → World → Prop) (first : s.wp P (Exit.then M fun _ _ _ => False) a w) (rest : ∀ a' w', M a' w' → K a' w') : s.wp P (Exit.then K Q) a w := by
  refine wp_mono first ?_
  intro e a' w' h
  cases e with
  | normal => exact rest _ _ h
  | _ => exact absurd h (by simp [Exit.then])

set_option maxHeartbeats 4000000 in
theorem walkFnVisitsBound (w : World) (a : Option Addr) (len cap : Nat) (zs : List Int) (h : IsRow .u8 w a len cap zs) :
    Calls Try.prog 8 #[.slice a len cap] w fun e w' => e = .returned (.bool true) ∧ Below w.heap.size w w' := by
  obtain ⟨ys, rfl, hC, S0⟩ := came_of h
  clear h
  by_cases hs : ys.length ≤ 1048576
  · have t1 : decide (1048576 < (ys.length : Int)) = false := by simp; omega
    go_enter Try.func8, Try.ntmps8
    go_wp2_with fail
    refine (DrawPlaceFor_any (by exact S0) hC).mono ?_
    rintro e w1 ⟨T, a1, c1, lo, hi, key, rfl, hT, ⟨k1, k2⟩, hlo, S1⟩
    obtain ⟨n1, n2⟩ := hT.len
    have S2 := S1.alloc #[.int .i64 T.t, .int .i64 T.p, .slice a1 T.zs.length c1] 29
    go_wp2_with fail
    refine (VisitsFor_any T a1 c1 key _ (by omega) (by exact S2.ints 1 rfl)).mono ?_
    rintro e w2 ⟨rfl, hb⟩
    have S3 := S1.alloc1 hb
    clear S1 S2 hb
    obtain ⟨x0, x1, x2, x3, x4, x5, xz⟩ := facts3 (S3.cells 0 rfl)
    go_wp2_with fail
    clear x0 x1 x2 x3 x4 x5 xz
    refine (specVisitsFor_any T a1 c1 key _ (by omega) (by exact S3.ints 1 rfl)).mono ?_
    rintro e w3 ⟨rfl, hb⟩
    have S4 := S3.below hb
    clear S3 hb
    obtain ⟨x0, x1, x2, x3, x4, x5, xz⟩ := facts3 (S4.cells 0 rfl)
    rcases bound_cases T key with ⟨e1, hno⟩ | ⟨v, h, hv, e1, e2, ⟨b1, b2, b3⟩, hcase⟩
    · rw [e1]
      clear e1
      go_wp2_with fail
      clear x0 x1 x2 x3 x4 x5 xz
      refine (TableValid_any T a1 c1 _ (by omega) (by exact S4.ints 1 rfl)).mono ?_
      rintro e w4 ⟨rfl, hb⟩
      have S5 := S4.below hb
      clear S4 hb
      cases hv : validB T
      · go_wp2
        go_ret
        exact ⟨rfl, S5.old⟩
      · by_cases hk : key < 0
        · have d : decide (key < 0) = true := decide_eq_true hk
          go_wp2
          go_ret
          exact ⟨rfl, S5.old⟩
        · have d : decide (key < 0) = false := decide_eq_false hk
          have d2 : decide (99 < key) = true := decide_eq_true (by
            rcases hno with h | h | h
            · rw [hv] at h; cases h
            · exact absurd h hk
            · exact h)
          go_wp2
          go_ret
          exact ⟨rfl, S5.old⟩
    · rw [e1]
      have HH := HomeOf_any T a1 c1 key
      rw [e2] at HH
      have HH := Lib.hid HH
      have HC := Lib.hid (CountSlots_any T a1 c1)
      have HRA := RunAt_any T a1 c1 (h : Int)
      clear e1 e2
      obtain ⟨p, q, bb, hV⟩ : ∃ (p q : Nat) (bb : Bool), runV (runAt T (h : Int)) = .tuple #[.agg #[.int .i64 p, .int .i64 q], .bool bb] := ⟨_, _, _, rfl⟩
      rw [hV] at HRA
      have HRA := Lib.hid HRA
      have HV := Lib.hid hV
      clear hV
      have S4D := S4.drew
      have z0 := S4.size
      have z1 : w1.heap.size + 1 ≤ w3.heap.size := S4.sz 0 rfl
      have z2 : hi ≤ w3.heap.size := S4.sz 1 rfl
      go_wp2_with fail
      refine wp_mid (fun a' W => ∃ R, St w W [It.box R #[.int .i64 p, .int .i64 q] 37, It.box w1.heap.size #[.int .i64 T.t, .int .i64 T.p, .slice a1 T.zs.length c1] 29, It.own lo hi a1 T.zs] ∧ a' = { tmps := #[.slice a ys.length cap, undef, .bool false, .pointer (some ⟨w1.heap.size, 0, none⟩), .int .i64 key, .int .i64 v, .pointer (some ⟨R, 0, none⟩), .bool bb, undef, undef, undef, undef, .slice a ys.length cap, .int .i64 ys.length, .bool false, .tuple #[tabV T a1 c1, .int .i64 key], .slice a ys.length cap, .tuple #[tabV T a1 c1, .int .i64 key], tabV T a1 c1, .int .i64 key, .agg #[.int .i64 T.t, .int .i64 T.p, .slice a1 T.zs.length c1], .int .i64 key, .int .i64 v, .int .i64 v, .agg #[.int .i64 T.t, .int .i64 T.p, .slice a1 T.zs.length c1], .int .i64 key, .int .i64 v, .bool false, .int .i64 v, .bool (decide ((v : Int) < 0)), undef, undef, undef, undef, undef, undef, undef, undef, undef, undef, undef, .tuple #[.agg #[.int .i64 p, .int .i64 q], .bool bb], .agg #[.int .i64 T.t, .int .i64 T.p, .slice a1 T.zs.length c1], .agg #[.int .i64 T.t, .int .i64 T.p, .slice a1 T.zs.length c1], .int .i64 key, .int .i64 h, .tuple #[.agg #[.int .i64 p, .int .i64 q], .bool bb], .agg #[.int .i64 p, .int .i64 q], .bool bb, undef, undef, undef, undef, undef, undef, undef, undef, undef, undef, undef, undef, undef, undef, undef, undef, undef, undef, undef, undef, undef, undef, undef, undef, undef, undef, undef, undef, undef, undef, undef, undef, undef, undef, undef, undef, undef, undef, undef, undef, undef, undef, undef], defers := [] }) ?first ?rest
      case first =>
        go_region_with (first
          | (go_at_call 32; (with_reducible refine (HH.out _ (by omega) (by exact S4D.ints 1 rfl)).mono ?_); rintro e w5 ⟨rfl, hb5⟩; have U5 := S4D.below hb5; obtain ⟨x0, x1, x2, x3, x4, x5, xz⟩ := facts3 (U5.cells 0 rfl))
          | (go_at_call 32; (with_reducible refine (HH.out _ (by omega) (by exact (S4.alloc #[.int .i64 0, .int .i64 0] 37).drew.ints 2 rfl)).mono ?_); rintro e w5 ⟨rfl, hb5⟩; have U5 := (S4.alloc #[.int .i64 0, .int .i64 0] 37).drew.below hb5; obtain ⟨x0, x1, x2, x3, x4, x5, xz⟩ := facts3 (U5.cells 1 rfl); obtain ⟨y0, y1, y2, y3, yz⟩ := facts2 (U5.cells 0 rfl))
          | (go_at_call 20; (with_reducible refine (HRA.out _ (by omega) (by first | exact U5.ints 1 rfl | exact U5.ints 2 rfl)).mono ?_); rintro e w6 ⟨rfl, hb6⟩; have U6 := U5.below hb6; first | (obtain ⟨y0, y1, y2, y3, yz⟩ := facts2 (U6.cells 0 rfl); obtain ⟨x0, x1, x2, x3, x4, x5, xz⟩ := facts3 (U6.cells 1 rfl)) | (obtain ⟨x0, x1, x2, x3, x4, x5, xz⟩ := facts3 (U6.cells 0 rfl)))
          | (go_at_call 20; (with_reducible refine (HRA.out _ (by omega) (by exact (U5.alloc #[.int .i64 0, .int .i64 0] 37).ints 2 rfl)).mono ?_); rintro e w6 ⟨rfl, hb6⟩; have U6 := (U5.alloc #[.int .i64 0, .int .i64 0] 37).below hb6; obtain ⟨y0, y1, y2, y3, yz⟩ := facts2 (U6.cells 0 rfl); obtain ⟨x0, x1, x2, x3, x4, x5, xz⟩ := facts3 (U6.cells 1 rfl)))
        all_goals
          first
            | exact ⟨_, U6.alloc #[.int .i64 p, .int .i64 q] 37, rfl⟩
            | (have h5 : w3.heap.size ≤ w5.heap.size := hb5.size; exact ⟨_, (U6.setBoxAt 0 rfl 0 (.int .i64 p) (setCell_two0 (U6.cells 0 rfl) _) (by simp [Far, It.box, It.own]; omega) (by omega)).setBoxAt 0 rfl 1 (.int .i64 q) (setCell_two ((U6.setBoxAt 0 rfl 0 (.int .i64 p) (setCell_two0 (U6.cells 0 rfl) _) (by simp [Far, It.box, It.own]; omega) (by omega)).cells 0 rfl) _) (by simp [Far, It.box, It.own]; omega) (by omega), rfl⟩)
            | (exact ⟨_, (U6.setBoxAt 0 rfl 0 (.int .i64 p) (setCell_two0 (U6.cells 0 rfl) _) (by simp [Far, It.box, It.own]; omega) (by omega)).setBoxAt 0 rfl 1 (.int .i64 q) (setCell_two ((U6.setBoxAt 0 rfl 0 (.int .i64 p) (setCell_two0 (U6.cells 0 rfl) _) (by simp [Far, It.box, It.own]; omega) (by omega)).cells 0 rfl) _) (by simp [Far, It.box, It.own]; omega) (by omega), rfl⟩)
      case rest =>
        rintro a' W ⟨R, S5, rfl⟩
        clear x0 x1 x2 x3 x4 x5 xz S4 S4D
        obtain ⟨x0, x1, x2, x3, x4, x5, xz⟩ := facts3 (S5.cells 1 rfl)
        go_wp2_with fail
        clear x0 x1 x2 x3 x4 x5 xz
        refine (HC.out _ (by omega) (by exact S5.ints 2 rfl)).mono ?_
        rintro e w7 ⟨rfl, hb⟩
        have S6 := S5.below hb
        clear S5 hb
        rcases hcase with ⟨hn, hv1⟩ | ⟨p', q', d, hr, ⟨d1, d2, d3⟩, hd, hcf, hbd⟩
        · have hbb : bb = false := by have := HV.out; rw [hn] at this; simp [runV] at this; exact this.2
          subst hbb hv1
          go_wp2
          go_ret
          exact ⟨rfl, S6.old⟩
        · have hbb : bb = true ∧ p = p' ∧ q = q' := by
            have := HV.out; rw [hr] at this; simp [runV] at this
            exact ⟨this.2, by omega, by omega⟩
          obtain ⟨rfl, rfl, rfl⟩ := hbb
          have hh0 : (h : Int) < T.zs.length := by omega
          obtain ⟨x0, x1, x2, x3, x4, x5, xz⟩ := facts3 (S6.cells 1 rfl)
          obtain ⟨y0, y1, y2, y3, yz⟩ := facts2 (S6.cells 0 rfl)
          generalize countF T = cf at hcf hbd
          have ln : ((T.zs.length : Int) == 0) = false := beq_eq_false_iff_ne.2 (by omega)
          have hne : ¬ T.zs = [] := by intro e; rw [e] at b1; simp at b1
          have HD := Lib.hid hd
          clear hd
          have S6D := S6.drew
          go_wp2_with fail
          go_region_held3 (fun w' => (w'.cell? ⟨w1.heap.size, 0, none⟩ = some (.int .i64 T.t) ∧ w'.cell? ⟨w1.heap.size, 1, none⟩ = some (.int .i64 T.p) ∧ w'.cell? ⟨w1.heap.size, 2, none⟩ = some (.slice a1 T.zs.length c1)) ∧
              w'.cell? ⟨R, 0, none⟩ = some (.int .i64 p) ∧ w'.cell? ⟨R, 1, none⟩ = some (.int .i64 q))
            (first
              | exact ⟨⟨x0, x1, x2⟩, y0, y1⟩
              | exact ⟨⟨(facts3 (S7.cells 1 rfl)).1, (facts3 (S7.cells 1 rfl)).2.1, (facts3 (S7.cells 1 rfl)).2.2.1⟩, (facts2 (S7.cells 0 rfl)).1, (facts2 (S7.cells 0 rfl)).2.1⟩)
            (first
              | (go_at_call 32; refine (HH.out _ (by omega) (by exact S6D.ints 2 rfl)).mono ?_; rintro e w8 ⟨rfl, hb⟩; have S7 := S6D.below hb))
          clear x0 x1 x2 x3 x4 x5 xz y0 y1 y2 y3 yz S6 S6D hb
          rw [IntWalk.i64_in ((h : Int) - (p : Int)) ⟨by omega, by omega⟩, IntWalk.i64_in ((h : Int) - (p : Int) + (T.zs.length : Int)) ⟨by omega, by omega⟩, HD.out, IntWalk.i64_in ((q : Int) - (d : Int)) ⟨by omega, by omega⟩]
          obtain ⟨x0, x1, x2, x3, x4, x5, xz⟩ := facts3 (S7.cells 1 rfl)
          by_cases hc0 : cf = 0
          · subst hc0
            have d1 : decide ((v : Int) ≤ (T.zs.length : Int) + 1) = true := decide_eq_true (by omega)
            have d2 : decide ((v : Int) ≤ (T.zs.length : Int)) = true := decide_eq_true (by omega)
            go_wp2
            go_ret
            exact ⟨rfl, S7.old⟩
          · have hc1 : (cf == 0) = false := by simpa using hc0
            have d1 : decide ((v : Int) ≤ (q : Int) - (d : Int) + 1) = true := decide_eq_true (by omega)
            have d2 : decide ((v : Int) ≤ (T.zs.length : Int)) = true := decide_eq_true (by omega)
            go_wp2
            go_ret
            exact ⟨rfl, S7.old⟩
  · have t1 : decide (1048576 < (ys.length : Int)) = true := by simp; omega
    go_enter Try.func8, Try.ntmps8
    go_wp2_with fail
    go_ret
    exact ⟨rfl, S0.old⟩

end Go.Proofs.Ytpbffdjiijpigaa

/-
  The law FnAway: the walk.
-/
import Derived.Test.YtlhbddjaioodkaaCame
import Derived.Test.YtlhbddjaioodkaaAway
namespace Go.Proofs.Ytlhbddjaioodkaa
open Go.RowKit

theorem own_cell {w : World} {base b o : Nat} {zs : List Int} (h : OwnInts w base (some ⟨b, o, none⟩) zs) {k : Nat} {x : Int} (hk : k < zs.length) (hx : nth zs k = x) : w.cell? ⟨b, o + k, none⟩ = some (.int .i64 x) := by
  subst hx
  exact (own_at h hk).1

set_option maxHeartbeats 2000000 in
theorem walkFnAway (w : World) (a : Option Addr) (len cap : Nat) (zs : List Int) (h : IsRow .u8 w a len cap zs) :
    Calls Try.prog 5 #[.slice a len cap] w fun e w' => e = .returned (.bool true) ∧ Below w.heap.size w w' := by
  obtain ⟨ys, rfl, hC, S0⟩ := came_of h
  clear h
  by_cases hs : ys.length ≤ 1048576
  · have t1 : decide (1048576 < (ys.length : Int)) = false := by simp; omega
    go_enter Try.func5, Try.ntmps5
    go_wp2_with fail
    refine (DrawAwayOf_any (by exact S0) hC).mono ?_
    rintro e w1 ⟨T, a1, c1, lo, hi, slot, rfl, hT, ⟨k1, k2⟩, hlo, S1⟩
    obtain ⟨n1, n2⟩ := hT.len
    have S2 := S1.alloc #[.int .i64 T.t, .int .i64 T.p, .slice a1 T.zs.length c1] 25
    go_wp2_with fail
    refine (AwayOf_any T a1 c1 slot _ (by omega) (by exact S2.ints 1 rfl)).mono ?_
    rintro e w2 ⟨rfl, hb⟩
    have S3 := S1.alloc1 hb
    clear S1 S2 hb
    obtain ⟨x0, x1, x2, x3, x4, x5, xz⟩ := facts3 (S3.cells 0 rfl)
    have hsp := Lib.hid fun W h => specAwayOf_any T a1 c1 slot W (by omega) h
    rcases awayOf_cases T slot with e1 | ⟨k, x, rfl, hk, hx, x0', x9, hv, e1, b1, b2⟩
    · rw [e1] at hsp ⊢
      clear e1
      go_wp2_with fail
      clear x0 x1 x2 x3 x4 x5 xz
      refine (hsp.out _ (by exact S3.ints 1 rfl)).mono ?_
      rintro e w3 ⟨rfl, hb⟩
      have S4 := S3.below hb
      clear S3 hb
      obtain ⟨x0, x1, x2, x3, x4, x5, xz⟩ := facts3 (S4.cells 0 rfl)
      go_wp2_with fail
      clear x0 x1 x2 x3 x4 x5 xz
      refine (hsp.out _ (by exact S4.ints 1 rfl)).mono ?_
      rintro e w5 ⟨rfl, hb⟩
      have S5 := S4.below hb
      go_wp2_with fail
      go_ret
      exact ⟨rfl, S5.old⟩
    · have hi := HomeOf_any T a1 c1 x
      have hh : homeOf T x = homeI T x := (homeOf_yes hv (inB_true ⟨x0', x9⟩)).symm
      rw [hh] at hi
      obtain ⟨v1, v2⟩ := homeI_bounds hv x
      have M : Hid ((homeI T x + awayOf T k) % T.zs.length = k) := Lib.hid (by rw [e1]; exact away_back (by omega) (by omega))
      have HI := Lib.hid hi
      clear hi hh e1
      generalize homeI T x = g at *
      generalize awayOf T k = v at *
      have HV := Lib.hid hv
      have HX := Lib.hid hx
      clear hv hx
      have d0 : decide (v < 0) = false := decide_eq_false (by omega)
      have d1 : decide (v < (T.zs.length : Int)) = true := decide_eq_true b2
      go_wp2_with fail
      clear x0 x1 x2 x3 x4 x5 xz
      refine (hsp.out _ (by exact S3.ints 1 rfl)).mono ?_
      rintro e w3 ⟨rfl, hb⟩
      have S4 := S3.below hb
      clear S3 hb
      obtain ⟨x0, x1, x2, x3, x4, x5, xz⟩ := facts3 (S4.cells 0 rfl)
      obtain ⟨b, o, y, rfl, q, X⟩ := (S4.ints 1 rfl).at hk
      obtain rfl : y = x := X.out.symm.trans HX.out
      clear X
      have hk0 : (0 : Int) ≤ (k : Int) := by omega
      have hk1 : (k : Int) < (T.zs.length : Int) := by omega
      go_wp2_with fail
      have ln : ((T.zs.length : Int) == 0) = false := beq_eq_false_iff_ne.2 (by omega)
      have ln2 : (T.zs.length == 0) = false := beq_eq_false_iff_ne.2 (by omega)
      have ln3 : ¬ T.zs = [] := by intro e; rw [e] at n1; simp at n1
      have w1' : IntKind.i64.wrap (g + v) = g + v := IntWalk.i64_in _ (by omega)
      have w2' : (g + v).tmod (T.zs.length : Int) = k := by rw [Int.tmod_eq_emod_of_nonneg (by omega)]; exact M.out
      go_region_held3 (fun w' => w'.cell? ⟨w1.heap.size, 0, none⟩ = some (.int .i64 T.t) ∧ w'.cell? ⟨w1.heap.size, 1, none⟩ = some (.int .i64 T.p) ∧ w'.cell? ⟨w1.heap.size, 2, none⟩ = some (.slice (some ⟨b, o, none⟩) T.zs.length c1) ∧ w'.cell? ⟨b, o + k, none⟩ = some (.int .i64 y))
        (first
          | exact ⟨x0, x1, x2, q⟩
          | exact ⟨(S5.three 0 rfl).1, (S5.three 0 rfl).2.1, (S5.three 0 rfl).2.2, Q5⟩)
        (first
          | (go_at_call 17; refine (HI.out _ (by omega) (by exact S4.drew.ints 1 rfl)).mono ?_; rintro e w5 ⟨rfl, hb⟩; have S5 := S4.drew.below hb; have Q5 := own_cell (S5.owns 1 rfl) hk HX.out))
      go_wp2
      go_ret
      exact ⟨rfl, S5.old⟩
  · have t1 : decide (1048576 < (ys.length : Int)) = true := by simp; omega
    go_enter Try.func5, Try.ntmps5
    go_wp2_with fail
    go_ret
    exact ⟨rfl, S0.old⟩

end Go.Proofs.Ytlhbddjaioodkaa

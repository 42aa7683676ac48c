/-
  HomesOf, FindNest of the model.
-/
import Derived.Test.YtojmjhojgfopaaaNestS
namespace Go.Proofs.Ytojmjhojgfopaaa
open Go.RowKit

set_option maxHeartbeats 1000000 in
theorem l9Asked_any (N : Nst) (a : Option Addr) (c : Nat) (key : Int) (w : World) (hx : N.zs.length ≤ 9223372036854775807) (h1 : IntsAt w a N.zs) :
    Calls Try.prog 40 #[nstV N a c, .int .i64 key] w fun e w' => e = .returned (.bool (askN N key)) ∧ Below w.heap.size w w' := by
  have S0 := ((St.start w).read h1).alloc (nstC N a c) 25
  obtain ⟨x0, x1, x2, x3, x4, xz⟩ := facts5 (S0.cells 0 rfl)
  have HA : Hid (askN N key = (nestB N && inB key 0 99)) := Lib.hid rfl
  cases hn : nestB N
  all_goals
    rw [hn] at HA
    go_enter Try.func40, Try.ntmps40
    go_wp2_with fail
    clear x0 x1 x2 x3 x4 xz
    refine (specNestValid_any N a c _ hx (by exact S0.reads 1 rfl)).mono ?_
    rw [hn]
    rintro e w1 ⟨rfl, hb⟩
    have S1 := S0.below hb
    clear S0 hb
    go_wp2_with (go_at_call 66; refine (l1Key_any _ _).mono ?_; rintro e w' ⟨rfl, rfl⟩)
    go_ret
    exact ⟨ret_bool (by rw [HA.out]; rfl), S1.old⟩

set_option maxHeartbeats 1000000 in
theorem specFindNest_any (N : Nst) (a : Option Addr) (c : Nat) (key : Int) (w : World) (hx : N.zs.length ≤ 9223372036854775807) (h1 : IntsAt w a N.zs) :
    Calls Try.prog 25 #[nstV N a c, .int .i64 key] w fun e w' => e = .returned (.tuple #[.int .i64 (fndN N key), .bool (hasN N key)]) ∧ Below w.heap.size w w' := by
  have S0 := ((St.start w).read h1).alloc (nstC N a c) 25
  obtain ⟨x0, x1, x2, x3, x4, xz⟩ := facts5 (S0.cells 0 rfl)
  cases ha : askN N key
  · obtain ⟨R1, R2⟩ := fndN_no ha
    have R : Hid (fndN N key = -1 ∧ hasN N key = false) := Lib.hid ⟨R1, R2⟩
    clear R1 R2
    go_enter Try.func25, Try.ntmps25
    go_wp2_with fail
    clear x0 x1 x2 x3 x4 xz
    refine (l9Asked_any N a c key _ hx (by exact S0.reads 1 rfl)).mono ?_
    rw [ha]
    rintro e w1 ⟨rfl, hb⟩
    have S1 := S0.below hb
    go_wp2_with fail
    refine bodyPost_ret (v := .tuple #[.int .i64 (-1), .bool false]) (by simp [results, Try.results25, go_sem]) rfl ⟨?_, S1.old⟩
    rw [R.out.1, R.out.2]
  · have R : Hid (fndN N key = fnd N.zs key ∧ hasN N key = decide (0 ≤ fnd N.zs key)) := Lib.hid ⟨fndN_yes ha, by rw [hasN, fndN_yes ha]⟩
    have HF := Lib.hid fun (W : World) (h : IntsAt W a N.zs) => l1Find_any a c N.zs key W hx h
    generalize fnd N.zs key = f at R HF
    go_enter Try.func25, Try.ntmps25
    go_wp2_with fail
    clear x0 x1 x2 x3 x4 xz
    refine (l9Asked_any N a c key _ hx (by exact S0.reads 1 rfl)).mono ?_
    rw [ha]
    rintro e w1 ⟨rfl, hb⟩
    have S1 := S0.below hb
    clear S0 hb
    obtain ⟨x0, x1, x2, x3, x4, xz⟩ := facts5 (S1.cells 0 rfl)
    have hI := Lib.hid (S1.reads 1 rfl)
    go_wp2_with (go_at_call 55; refine (HF.out _ (by exact hI.out)).mono ?_; rintro e w' ⟨rfl, rfl⟩)
    refine bodyPost_ret (v := .tuple #[.int .i64 f, .bool (decide (0 ≤ f))]) (by simp [results, Try.results25, go_sem]) rfl ⟨?_, S1.old⟩
    rw [R.out.1, R.out.2]

set_option maxHeartbeats 4000000 in
theorem specHomesOf_any (N : Nst) (a : Option Addr) (c : Nat) (key : Int) (w : World) (hx : N.zs.length ≤ 9223372036854775807) (h1 : IntsAt w a N.zs) :
    Calls Try.prog 13 #[nstV N a c, .int .i64 key] w fun e w' => e = .returned (.tuple #[.int .i64 (home1 N key), .int .i64 (home2 N key)]) ∧ Below w.heap.size w w' := by
  have S0 := ((St.start w).read h1).alloc (nstC N a c) 25
  obtain ⟨x0, x1, x2, x3, x4, xz⟩ := facts5 (S0.cells 0 rfl)
  cases ha : askN N key
  · obtain ⟨R1, R2⟩ := homes_no ha
    have R : Hid (home1 N key = -1 ∧ home2 N key = -1) := Lib.hid ⟨R1, R2⟩
    clear R1 R2
    go_enter Try.func13, Try.ntmps13
    go_wp2_with fail
    clear x0 x1 x2 x3 x4 xz
    refine (l9Asked_any N a c key _ hx (by exact S0.reads 1 rfl)).mono ?_
    rw [ha]
    rintro e w1 ⟨rfl, hb⟩
    have S1 := S0.below hb
    go_wp2_with fail
    refine bodyPost_ret (v := .tuple #[.int .i64 (-1), .int .i64 (-1)]) (by simp [results, Try.results13, go_sem]) rfl ⟨?_, S1.old⟩
    rw [R.out.1, R.out.2]
  · have R : Hid (home1 N key = homeI N.one key ∧ home2 N key = homeI N.two key) := Lib.hid (homes_yes ha)
    obtain ⟨hn, k0, k9⟩ := askN_parts ha
    obtain ⟨hv1, hv2, _⟩ := nestB_iff.1 hn
    have H1 := Lib.hid fun (W : World) => l1Home_any N.one a c key W hv1 k0 k9
    have H2 := Lib.hid fun (W : World) => l1Home_any N.two a c key W hv2 k0 k9
    clear hn
    generalize homeI N.one key = h1v at R H1
    generalize homeI N.two key = h2v at R H2
    go_enter Try.func13, Try.ntmps13
    go_wp2_with fail
    clear x0 x1 x2 x3 x4 xz
    refine (l9Asked_any N a c key _ hx (by exact S0.reads 1 rfl)).mono ?_
    rw [ha]
    rintro e w1 ⟨rfl, hb⟩
    have S1 := S0.below hb
    clear S0 hb
    have X0 : _ ∧ _ ∧ _ ∧ _ ∧ _ := (S1.ten 0 0 rfl rfl).2.2.2.2.2
    have X0d : _ ∧ _ ∧ _ ∧ _ ∧ _ := (S1.drew.ten 0 0 rfl rfl).2.2.2.2.2
    have xz : w.heap.size < w1.heap.size := (facts5 (S1.cells 0 rfl)).2.2.2.2.2
    have xzd : w.heap.size < w1.drew.heap.size := xz
    go_wp2_with fail
    go_cut [4, 5] (fun s4 s5 wx => s4 = .int .i64 h1v ∧ s5 = .int .i64 h2v ∧ Hid (St w wx []))
    case first =>
      go_region_held3 (fun w' => w'.cell? ⟨w.heap.size, 0, none⟩ = some (.int .i64 N.t) ∧ w'.cell? ⟨w.heap.size, 1, none⟩ = some (.int .i64 N.p) ∧ w'.cell? ⟨w.heap.size, 2, none⟩ = some (.int .i64 N.m) ∧ w'.cell? ⟨w.heap.size, 3, none⟩ = some (.int .i64 N.g) ∧ w'.cell? ⟨w.heap.size, 4, none⟩ = some (.slice a N.zs.length c))
        (first
          | with_reducible exact X0
          | with_reducible exact X0d
          | (repeat (first | with_reducible exact X0 | with_reducible exact X0d | with_reducible exact xz | with_reducible exact xzd | with_reducible refine five_below (by assumption) ?_ ?_ | with_reducible refine lt_below (by assumption) ?_ | with_reducible refine five_drew ?_ | with_reducible refine lt_drew ?_)); done)
        (first
          | (go_at_call 42; refine (l9First_any N a c _).mono ?_; rintro e wa ⟨rfl, hba⟩; first | (have SA := S1.drew.below hba) | (have SA := SB.below hba) | (have SA := SD.below hba))
          | (go_at_call 43; refine (l9Second_any N a c _).mono ?_; rintro e wb ⟨rfl, hbb⟩; first | (have SB := SA.below hbb) | (have SB := SC.below hbb))
          | (go_at_call 41; with_reducible refine (H1.out _).mono ?_; rintro e wc ⟨rfl, hbc⟩; first | (have SC := SA.below hbc) | (have SC := SB.below hbc) | (have SC := SD.below hbc))
          | (go_at_call 41; with_reducible refine (H2.out _).mono ?_; rintro e wd ⟨rfl, hbd⟩; first | (have SD := SC.below hbd) | (have SD := SB.below hbd)))
      all_goals (go_wp2_with fail; go_meet)
      all_goals exact ⟨rfl, rfl, Lib.hid (SD.turn (by simp))⟩
    case rest =>
      obtain ⟨rfl, rfl, HS⟩ := hcut
      go_wp2_with fail
      refine bodyPost_ret (v := .tuple #[.int .i64 h1v, .int .i64 h2v]) (by simp [results, Try.results13, go_sem]) rfl ⟨?_, HS.out.old⟩
      rw [R.out.1, R.out.2]

end Go.Proofs.Ytojmjhojgfopaaa

/-
  HomesOf, FindNest of the program.
-/
import Derived.Test.YtojmjhojgfopaaaNestV
namespace Go.Proofs.Ytojmjhojgfopaaa
open Go.RowKit

set_option maxHeartbeats 2000000 in
theorem FindNest_any (N : Nst) (a : Option Addr) (c : Nat) (key : Int) (w : World) (hx : N.zs.length ≤ 9223372036854775807) (h1 : IntsAt w a N.zs) :
    Calls Try.prog 26 #[nstV N a c, .int .i64 key] w fun e w' => e = .returned (.tuple #[.int .i64 (fndN N key), .bool (hasN N key)]) ∧ Below w.heap.size w w' := by
  have hst := store_func
  have S0 := ((St.start w).read h1).alloc (nstC N a c) 25
  obtain ⟨x0, x1, x2, x3, x4, xz⟩ := facts5 (S0.cells 0 rfl)
  cases hn : nestB N
  · have R : Hid (fndN N key = -1 ∧ hasN N key = false) := Lib.hid (fndN_no (by simp [askN, hn]))
    go_enter Try.func26, Try.ntmps26
    go_wp2_with fail
    clear x0 x1 x2 x3 x4 xz
    refine (NestValid_any N a c _ hx (by exact S0.reads 1 rfl)).mono ?_
    rw [hn]
    rintro e w1 ⟨rfl, hb⟩
    have S1 := S0.below hb
    go_wp2_with fail
    refine bodyPost_ret (v := .tuple #[.int .i64 (-1), .bool false]) (by simp [results, Try.results26, go_sem]) rfl ⟨?_, S1.old⟩
    rw [R.out.1, R.out.2]
  cases hk : inB key 0 99
  · have R : Hid (fndN N key = -1 ∧ hasN N key = false) := Lib.hid (fndN_no (by simp [askN, hk]))
    go_enter Try.func26, Try.ntmps26
    go_wp2_with fail
    clear x0 x1 x2 x3 x4 xz
    refine (NestValid_any N a c _ hx (by exact S0.reads 1 rfl)).mono ?_
    rw [hn]
    rintro e w1 ⟨rfl, hb⟩
    have S1 := S0.below hb
    go_wp2_with (go_at_call 38; refine (isKey_any _ _).mono ?_; rintro e w' ⟨rfl, rfl⟩; rw [hk])
    refine bodyPost_ret (v := .tuple #[.int .i64 (-1), .bool false]) (by simp [results, Try.results26, go_sem]) rfl ⟨?_, S1.old⟩
    rw [R.out.1, R.out.2]
  have ha : askN N key = true := by simp [askN, hn, hk]
  obtain ⟨hv1, hv2, l1, l2⟩ := askN_len ha
  obtain ⟨-, k0, k9⟩ := askN_parts ha
  obtain ⟨m1, e1, lt1⟩ := home_slot hv1 key
  obtain ⟨m2, e2, lt2⟩ := home_slot hv2 key
  have lt1' : m1 < N.zs.length := lt1
  have lt2' : m2 < N.zs.length := lt2
  have H1 := Lib.hid fun (b : Nat) (W : World) (hB : W.heap[b]? = some (.cells (tabD N.one a c) 62 (0, 0))) => homeF_any N.one a c key b W hv1 k0 k9 hB
  have H2 := Lib.hid fun (b : Nat) (W : World) (hB : W.heap[b]? = some (.cells (tabD N.two a c) 62 (0, 0))) => homeF_any N.two a c key b W hv2 k0 k9 hB
  rw [e1] at H1
  rw [e2] at H2
  have F1 : Hid (nth N.zs m1 = key → fndN N key = m1 ∧ hasN N key = true) := Lib.hid fun h => fnd_first_home ha lt1 h
  have F2 : Hid (nth N.zs m2 = key → fndN N key = m2 ∧ hasN N key = true) := Lib.hid fun h => fnd_first_home ha lt2 h
  have F3 : Hid (nth N.zs m1 ≠ key → nth N.zs m2 ≠ key → fndN N key = -1 ∧ hasN N key = false) := Lib.hid fun h h' => fnd_no_home ha e1 e2 h h'
  clear e1 e2 ha lt1 lt2 hv1 hv2
  go_enter Try.func26, Try.ntmps26
  go_wp2_with fail
  clear x0 x1 x2 x3 x4 xz
  refine (NestValid_any N a c _ hx (by exact S0.reads 1 rfl)).mono ?_
  rw [hn]
  rintro e w1 ⟨rfl, hb⟩
  have S1 := S0.below hb
  clear S0 hb
  obtain ⟨x0, x1, x2, x3, x4, xz⟩ := facts5 (S1.cells 0 rfl)
  go_wp2_with (go_at_call 38; refine (isKey_any _ _).mono ?_; rintro e w' ⟨rfl, rfl⟩; rw [hk])
  clear x0 x1 x2 x3 x4 xz
  refine (homesIn_any N a c _).mono ?_
  rintro e w2 ⟨b1, b2, rfl, R⟩
  have S2 := S1.plus R
  simp only [List.cons_append, List.nil_append] at S2
  clear S1 R
  have q0 := index_homes0 b1 b2
  have q1 := index_homes1 b1 b2
  go_wp2_with fail
  go_loopw [7, 8, 19] (fun _ _ i wr => ((i = .int .i64 0) ∨ (i = .int .i64 1 ∧ Hid (nth N.zs m1 ≠ key)) ∨ (i = .int .i64 2 ∧ Hid (nth N.zs m1 ≠ key ∧ nth N.zs m2 ≠ key))) ∧ Hid (St w wr [It.box b1 (tabD N.one a c) 62, It.box b2 (tabD N.two a c) 62, It.box w.heap.size (nstC N a c) 25, It.read w.heap.size a N.zs])) (fun _ _ i _ => 2 - (intOf i).toNat)
  case atStart => exact ⟨.inl rfl, Lib.hid S2⟩
  case round =>
    clear S2
    obtain ⟨hi, HS⟩ := hrel
    have S := HS.out
    rcases hi with rfl | ⟨rfl, n1⟩ | ⟨rfl, n12⟩
    · go_wp2_with fail
      refine (H1.out _ _ (by exact S.cells 0 rfl)).mono ?_
      rintro e w3 ⟨rfl, hb⟩
      have S3 := S.below hb
      clear S HS hb
      obtain ⟨x0, x1, x2, x3, x4, xz⟩ := facts5 (S3.cells 2 rfl)
      obtain ⟨b, o, x, ea, q, X⟩ := (S3.reads 3 rfl).at lt1'
      subst ea
      cases d : (x == key)
      · have hne : Hid (nth N.zs m1 ≠ key) := Lib.hid (by rw [X.out]; simpa using d)
        have S4 := Lib.hid S3
        go_wp2_with fail
        go_roundw
        case rel => exact ⟨.inr (.inl ⟨rfl, hne⟩), S4⟩
        case measure => simp [intOf]
      · have hf := Lib.hid (F1.out (by rw [X.out]; simpa using d))
        go_wp2_with fail
        refine bodyPost_ret (v := .tuple #[.int .i64 m1, .bool true]) (by simp [results, Try.results26, go_sem]) rfl ⟨?_, S3.old⟩
        rw [hf.out.1, hf.out.2]
    · go_wp2_with fail
      refine (H2.out _ _ (by exact S.cells 1 rfl)).mono ?_
      rintro e w3 ⟨rfl, hb⟩
      have S3 := S.below hb
      clear S HS hb
      obtain ⟨x0, x1, x2, x3, x4, xz⟩ := facts5 (S3.cells 2 rfl)
      obtain ⟨b, o, x, ea, q, X⟩ := (S3.reads 3 rfl).at lt2'
      subst ea
      cases d : (x == key)
      · have hne : Hid (nth N.zs m1 ≠ key ∧ nth N.zs m2 ≠ key) := Lib.hid ⟨n1.out, by rw [X.out]; simpa using d⟩
        have S4 := Lib.hid S3
        go_wp2_with fail
        go_roundw
        case rel => exact ⟨.inr (.inr ⟨rfl, hne⟩), S4⟩
        case measure => simp [intOf]
      · have hf := Lib.hid (F2.out (by rw [X.out]; simpa using d))
        go_wp2_with fail
        refine bodyPost_ret (v := .tuple #[.int .i64 m2, .bool true]) (by simp [results, Try.results26, go_sem]) rfl ⟨?_, S3.old⟩
        rw [hf.out.1, hf.out.2]
    · have hf := Lib.hid (F3.out n12.out.1 n12.out.2)
      go_wp2_with fail
      refine bodyPost_ret (v := .tuple #[.int .i64 (-1), .bool false]) (by simp [results, Try.results26, go_sem]) rfl ⟨?_, S.old⟩
      rw [hf.out.1, hf.out.2]

set_option maxHeartbeats 2000000 in
theorem HomesOf_any (N : Nst) (a : Option Addr) (c : Nat) (key : Int) (w : World) (hx : N.zs.length ≤ 9223372036854775807) (h1 : IntsAt w a N.zs) :
    Calls Try.prog 12 #[nstV N a c, .int .i64 key] w fun e w' => e = .returned (.tuple #[.int .i64 (home1 N key), .int .i64 (home2 N key)]) ∧ Below w.heap.size w w' := by
  have hst := store_func
  have S0 := ((St.start w).read h1).alloc (nstC N a c) 25
  obtain ⟨x0, x1, x2, x3, x4, xz⟩ := facts5 (S0.cells 0 rfl)
  cases hn : nestB N
  · have R : Hid (home1 N key = -1 ∧ home2 N key = -1) := Lib.hid (homes_no (by simp [askN, hn]))
    go_enter Try.func12, Try.ntmps12
    go_wp2_with fail
    clear x0 x1 x2 x3 x4 xz
    refine (NestValid_any N a c _ hx (by exact S0.reads 1 rfl)).mono ?_
    rw [hn]
    rintro e w1 ⟨rfl, hb⟩
    have S1 := S0.below hb
    go_wp2_with fail
    refine bodyPost_ret (v := .tuple #[.int .i64 (-1), .int .i64 (-1)]) (by simp [results, Try.results12, go_sem]) rfl ⟨?_, S1.old⟩
    rw [R.out.1, R.out.2]
  cases hk : inB key 0 99
  · have R : Hid (home1 N key = -1 ∧ home2 N key = -1) := Lib.hid (homes_no (by simp [askN, hk]))
    go_enter Try.func12, Try.ntmps12
    go_wp2_with fail
    clear x0 x1 x2 x3 x4 xz
    refine (NestValid_any N a c _ hx (by exact S0.reads 1 rfl)).mono ?_
    rw [hn]
    rintro e w1 ⟨rfl, hb⟩
    have S1 := S0.below hb
    go_wp2_with (go_at_call 38; refine (isKey_any _ _).mono ?_; rintro e w' ⟨rfl, rfl⟩; rw [hk])
    refine bodyPost_ret (v := .tuple #[.int .i64 (-1), .int .i64 (-1)]) (by simp [results, Try.results12, go_sem]) rfl ⟨?_, S1.old⟩
    rw [R.out.1, R.out.2]
  have ha : askN N key = true := by simp [askN, hn, hk]
  obtain ⟨hv1, hv2, l1, l2⟩ := askN_len ha
  obtain ⟨-, k0, k9⟩ := askN_parts ha
  have R : Hid (home1 N key = homeI N.one key ∧ home2 N key = homeI N.two key) := Lib.hid (homes_yes ha)
  have H1 := Lib.hid fun (b : Nat) (W : World) (hB : W.heap[b]? = some (.cells (tabD N.one a c) 62 (0, 0))) => homeF_any N.one a c key b W hv1 k0 k9 hB
  have H2 := Lib.hid fun (b : Nat) (W : World) (hB : W.heap[b]? = some (.cells (tabD N.two a c) 62 (0, 0))) => homeF_any N.two a c key b W hv2 k0 k9 hB
  generalize homeI N.one key = h1v at R H1
  generalize homeI N.two key = h2v at R H2
  clear ha hv1 hv2
  go_enter Try.func12, Try.ntmps12
  go_wp2_with fail
  clear x0 x1 x2 x3 x4 xz
  refine (NestValid_any N a c _ hx (by exact S0.reads 1 rfl)).mono ?_
  rw [hn]
  rintro e w1 ⟨rfl, hb⟩
  have S1 := S0.below hb
  clear S0 hb
  obtain ⟨x0, x1, x2, x3, x4, xz⟩ := facts5 (S1.cells 0 rfl)
  go_wp2_with (go_at_call 38; refine (isKey_any _ _).mono ?_; rintro e w' ⟨rfl, rfl⟩; rw [hk])
  clear x0 x1 x2 x3 x4 xz
  refine (homesIn_any N a c _).mono ?_
  rintro e w2 ⟨b1, b2, rfl, Rq⟩
  have S2 := (S1.plus Rq).alloc (homC b1 b2) 57
  simp only [List.cons_append, List.nil_append] at S2
  clear S1 Rq
  have X0 : _ ∧ _ := ⟨(pairs2 (S2.cells 0 rfl)).1, (pairs2 (S2.cells 0 rfl)).2.1⟩
  have X0d : _ ∧ _ := ⟨(pairs2 (S2.drew.cells 0 rfl)).1, (pairs2 (S2.drew.cells 0 rfl)).2.1⟩
  go_wp2_with fail
  go_region_held3 (fun w' => w'.cell? ⟨w2.heap.size, 0, none⟩ = some (homeV b1) ∧ w'.cell? ⟨w2.heap.size, 1, none⟩ = some (homeV b2))
    (first
      | with_reducible exact X0
      | with_reducible exact X0d
      | with_reducible exact XA
      | with_reducible exact XB)
    (first
      | (go_at_call 64; with_reducible refine (H1.out _ _ ?_).mono ?_; (exact S2.drew.cells 1 rfl); rintro e wa ⟨rfl, hba⟩; have SA := S2.drew.below hba; have XA : _ ∧ _ := ⟨(pairs2 (SA.cells 0 rfl)).1, (pairs2 (SA.cells 0 rfl)).2.1⟩)
      | (go_at_call 64; with_reducible refine (H2.out _ _ ?_).mono ?_; (exact SA.cells 2 rfl); rintro e wb ⟨rfl, hbb⟩; have SB := SA.below hbb; have XB : _ ∧ _ := ⟨(pairs2 (SB.cells 0 rfl)).1, (pairs2 (SB.cells 0 rfl)).2.1⟩))
  go_wp2_with fail
  refine bodyPost_ret (v := .tuple #[.int .i64 h1v, .int .i64 h2v]) (by simp [results, Try.results12, go_sem]) rfl ⟨?_, SB.old⟩
  rw [R.out.1, R.out.2]

end Go.Proofs.Ytojmjhojgfopaaa

/-
  NestValid: the program's.
-/
import Derived.Test.YtojmjhojgfopaaaDoorNestI
namespace Go.Proofs.YtojmjhojgfopaaaDoor
open Go.RowKit

/-- Behind how many of the tables have been looked at. -/
def TabK (N : Nst) (a : Option Addr) (c : Nat) (w : World) (i : Value) (wr : World) : Prop :=
  ((i = .int .i64 0) ∨ (i = .int .i64 1 ∧ validB N.one = true) ∨ (i = .int .i64 2 ∧ validB N.one = true ∧ validB N.two = true)) ∧ St w wr [It.box w.heap.size (nstC N a c) 27, It.read w.heap.size a N.zs]

set_option maxHeartbeats 4000000 in
theorem NestValid_any (N : Nst) (a : Option Addr) (c : Nat) (w : World) (hx : N.zs.length ≤ 9223372036854775807) (h1 : IntsAt w a N.zs) :
    Calls Tryd.prog 15 #[nstV N a c] w fun e w' => e = .returned (.bool (nestB N)) ∧ Below w.heap.size w w' := by
  have hst := store_func
  have q0 := index_tabs0 N a c
  have q1 := index_tabs1 N a c
  have S0 := ((St.start w).read h1).alloc (nstC N a c) 27
  obtain ⟨x0, x1, x2, x3, x4, xz⟩ := facts5 (S0.cells 0 rfl)
  go_enter Tryd.func15, Tryd.ntmps15
  go_wp2_with fail
  clear x0 x1 x2 x3 x4 xz
  refine (tables_any N a c _).mono ?_
  rintro e w1 ⟨rfl, hb⟩
  have S1 := S0.below hb
  clear S0 hb
  go_wp2_with fail
  go_loopw [4, 10] (fun _ i wr => Hid (TabK N a c w i wr)) (fun _ i _ => 2 - (intOf i).toNat)
  case atStart => exact Lib.hid ⟨.inl rfl, S1⟩
  case round =>
    clear S1
    obtain ⟨hi, S⟩ := hrel.out
    clear hrel
    rcases hi with rfl | ⟨rfl, hv1⟩ | ⟨rfl, hv1, hv2⟩
    · cases hv1 : validB N.one
      · have R : Hid (nestB N = false) := Lib.hid (nest_no1 hv1)
        have S2 := S.alloc #[.int .i64 N.t, .int .i64 N.p, .slice a N.zs.length c] 36
        go_wp2_with fail
        refine (TableValid_any N.one a c _ hx (by exact S2.reads 2 rfl)).mono ?_
        rw [hv1]
        rintro e w2 ⟨rfl, hb⟩
        have S3 := S2.below hb
        go_wp2_with fail
        go_ret
        exact ⟨ret_bool R.out.symm, S3.old⟩
      · have HV := Lib.hid hv1
        have S2 := S.alloc #[.int .i64 N.t, .int .i64 N.p, .slice a N.zs.length c] 36
        go_wp2_with fail
        refine (TableValid_any N.one a c _ hx (by exact S2.reads 2 rfl)).mono ?_
        rw [hv1]
        rintro e w2 ⟨rfl, hb⟩
        have S3 := S2.below hb
        clear hv1 S S2 hb
        go_wp2_with fail
        go_roundw
        case rel => exact Lib.hid ⟨.inr (.inl ⟨rfl, HV.out⟩), S3.turn (by simp)⟩
        case measure => simp [intOf]
    · have HV := Lib.hid hv1
      clear hv1
      cases hv2 : validB N.two
      · have R : Hid (nestB N = false) := Lib.hid (nest_no2 hv2)
        have S2 := S.alloc #[.int .i64 N.m, .int .i64 N.g, .slice a N.zs.length c] 36
        go_wp2_with fail
        refine (TableValid_any N.two a c _ hx (by exact S2.reads 2 rfl)).mono ?_
        rw [hv2]
        rintro e w2 ⟨rfl, hb⟩
        have S3 := S2.below hb
        go_wp2_with fail
        go_ret
        exact ⟨ret_bool R.out.symm, S3.old⟩
      · have HV2 := Lib.hid hv2
        have S2 := S.alloc #[.int .i64 N.m, .int .i64 N.g, .slice a N.zs.length c] 36
        go_wp2_with fail
        refine (TableValid_any N.two a c _ hx (by exact S2.reads 2 rfl)).mono ?_
        rw [hv2]
        rintro e w2 ⟨rfl, hb⟩
        have S3 := S2.below hb
        clear hv2 S S2 hb
        go_wp2_with fail
        go_roundw
        case rel => exact Lib.hid ⟨.inr (.inr ⟨rfl, HV.out, HV2.out⟩), S3.turn (by simp)⟩
        case measure => simp [intOf]
    · have HV1 := Lib.hid hv1
      have HV2 := Lib.hid hv2
      obtain ⟨⟨l1, l2⟩, _⟩ := valid_facts hv1
      obtain ⟨x0, x1, x2, x3, x4, xz⟩ := facts5 (S.cells 0 rfl)
      clear hv1 hv2 q0 q1
      go_wp2_with fail
      clear x0 x1 x2 x3 x4 xz
      refine (homesIn_any N a c _).mono ?_
      rintro e w2 ⟨b1, b2, rfl, R⟩
      have S2 := (S.plus R).alloc (homC b1 b2) 47
      simp only [List.cons_append, List.nil_append] at S2
      clear S R
      obtain ⟨x0, x1, x2, x3, x4, xz⟩ := facts5 (S2.cells 3 rfl)
      go_wp2_with fail
      clear x0 x1 x2 x3 x4 xz
      go_loopw [6, 7, 22] (fun _ _ i wr => ∃ k : Nat, k ≤ N.zs.length ∧ i = .int .i64 k ∧ Hid (Lies N k) ∧ Hid (St w wr [It.box w2.heap.size (homC b1 b2) 47, It.box b1 (tabD N.one a c) 36, It.box b2 (tabD N.two a c) 36, It.read w.heap.size a N.zs])) (fun _ _ i _ => N.zs.length - (intOf i).toNat)
      case atStart => exact ⟨0, Nat.zero_le _, rfl, Lib.hid (Lies.zero _), Lib.hid (S2.turn (by simp))⟩
      case round =>
        obtain ⟨k, hk, rfl, HL, HS⟩ := hrel
        clear S2
        have S := HS.out
        obtain ⟨y0, y1, _⟩ := pairs2 (S.cells 0 rfl)
        by_cases hlt : k < N.zs.length
        · obtain ⟨b, o, x, rfl, q, X⟩ := (S.reads 3 rfl).at hlt
          by_cases hf : x = -1
          · have HL2 := Lib.hid (HL.out.succ (fit_free X.out hf))
            have d0 : (x != -1) = false := by simp [hf]
            clear hf y0 y1 S
            go_wp2_with fail
            go_roundw
            case rel => exact ⟨k + 1, by omega, by go_num, HL2, HS⟩
            case measure => simp [intOf]; omega
          · have d0 : (x != -1) = true := by simpa using hf
            cases hin : inB x 0 99
            · have R : Hid (nestB N = false) := Lib.hid (nest_bad hlt (fit_nokey X.out hf hin))
              clear hf y0 y1
              go_wp2_with (go_at_call 26; refine (isKey_any _ _).mono ?_; rintro e w' ⟨rfl, rfl⟩; rw [hin])
              go_ret
              exact ⟨ret_bool R.out.symm, S.old⟩
            · obtain ⟨g0, g9⟩ := inB_iff.1 hin
              have HC := Lib.hid fun (W : World) (hB1 : W.heap[b1]? = some (.cells (tabD N.one (some ⟨b, o, none⟩) c) 36 (0, 0))) (hB2 : W.heap[b2]? = some (.cells (tabD N.two (some ⟨b, o, none⟩) c) 36 (0, 0))) => has_any N (some ⟨b, o, none⟩) c b1 b2 k x W HV1.out HV2.out g0 g9 hB1 hB2
              have HK : Hid (fitK N k = liesB N k x) := Lib.hid (by rw [fit_at X.out, hin]; simp [hf])
              generalize liesB N k x = y at HC HK
              clear hf
              cases y
              · have R : Hid (nestB N = false) := Lib.hid (nest_bad hlt HK.out)
                go_wp2_with (go_at_call 26; refine (isKey_any _ _).mono ?_; rintro e w' ⟨rfl, rfl⟩; rw [hin])
                refine (HC.out _ (by exact S.cells 1 rfl) (by exact S.cells 2 rfl)).mono ?_
                rintro e w4 ⟨rfl, hb⟩
                have S4 := S.below hb
                clear hb y0 y1
                go_wp2_with fail
                go_ret
                exact ⟨ret_bool R.out.symm, S4.old⟩
              · have HL2 := Lib.hid (HL.out.succ HK.out)
                go_wp2_with (go_at_call 26; refine (isKey_any _ _).mono ?_; rintro e w' ⟨rfl, rfl⟩; rw [hin])
                refine (HC.out _ (by exact S.cells 1 rfl) (by exact S.cells 2 rfl)).mono ?_
                rintro e w4 ⟨rfl, hb⟩
                have S4 := Lib.hid (S.below hb)
                clear hb y0 y1 S HS q
                go_wp2_with fail
                go_roundw
                case rel => exact ⟨k + 1, by omega, by go_num, HL2, S4⟩
                case measure => simp [intOf]; omega
        · have R : Hid (nestB N = true) := Lib.hid (nest_all HV1.out HV2.out (by omega) HL.out)
          clear y0 y1
          go_wp2
          go_ret
          exact ⟨ret_bool R.out.symm, S.old⟩

end Go.Proofs.YtojmjhojgfopaaaDoor

/-
  The program's RunsOf and RunAt.
-/
import Derived.Test.YtpncpeokdcolpaaRunsI
namespace Go.Proofs.Ytpncpeokdcolpaa
open Go.RowKit

set_option maxHeartbeats 1000000 in
theorem RunsOf_any (T : Tab) (a : Option Addr) (c : Nat) (w : World) (hx : T.zs.length ≤ 9223372036854775807) (h1 : IntsAt w a T.zs) :
    Calls Try.prog 26 #[tabV T a c] w fun e w' => ∃ (a' : Option Addr) (c' : Nat), e = .returned (.tuple #[.slice a' (runsOf T).length c', .bool (validB T)]) ∧ w'.ownsRow w.heap.size 37 2 (.slice a' (runsOf T).length c') (runsOf T).length (cellsR (runsOf T)) ∧ Below w.heap.size w w' := by
  have S0 := ((St.start w).read h1).alloc #[.int .i64 T.t, .int .i64 T.p, .slice a T.zs.length c] 27
  cases hv : validB T
  · have R : Hid (runsOf T = []) := Lib.hid (by simp [runsOf, hv])
    go_enter Try.func26, Try.ntmps26
    go_wp2_with fail
    refine (TableValid_any T a c _ hx (by exact S0.reads 1 rfl)).mono ?_
    rw [hv]
    rintro e w1 ⟨rfl, hb⟩
    have S1 := S0.below hb
    go_wp2
    go_ret2
    exact ⟨none, 0, by rw [R.out]; rfl, by rw [R.out]; exact World.ownsRow_nil _ _ _ _, S1.old⟩
  · have HR : Hid (runsOf T = runsL T) := Lib.hid (by simp [runsOf, hv])
    go_enter Try.func26, Try.ntmps26
    go_wp2_with fail
    refine (TableValid_any T a c _ hx (by exact S0.reads 1 rfl)).mono ?_
    rw [hv]
    rintro e w1 ⟨rfl, hb⟩
    have S1 := S0.below hb
    have z1 := S1.size
    clear S0 hb
    obtain ⟨x0, x1, x2, x3, x4, x5, xz⟩ := facts3 (S1.cells 0 rfl)
    go_wp2_with fail
    refine (ringOf_any T a c _ (by exact S1.reads 1 rfl) hv).mono ?_
    rintro e w2 ⟨g, rfl, hg0, hg, hr, hb⟩
    have S2 := S1.below hb
    clear S1 hb
    go_wp2_with fail
    refine (runs_any T g w2 hv hr hg).mono ?_
    rintro e w3 ⟨a2, c2, rfl, ho, hb⟩
    have z2 := S2.size
    have S3 := S2.below hb
    have HO := Lib.hid (ownsRow_base ho (base' := w.heap.size) (by omega))
    clear ho
    go_wp2
    go_ret2
    exact ⟨a2, c2, by rw [HR.out]; rfl, by rw [HR.out]; exact HO.out, S3.old⟩

set_option maxHeartbeats 4000000 in
theorem RunAt_any (T : Tab) (a : Option Addr) (c : Nat) (slot : Int) (w : World) (hx : T.zs.length ≤ 9223372036854775807) (h1 : IntsAt w a T.zs) :
    Calls Try.prog 23 #[tabV T a c, .int .i64 slot] w fun e w' => e = .returned (runV (runAt T slot)) ∧ Below w.heap.size w w' := by
  have S0 := (((St.start w).read h1).alloc #[.int .i64 T.t, .int .i64 T.p, .slice a T.zs.length c] 27).alloc #[.int .i64 0, .int .i64 0] 37
  rw [World.size_alloc] at S0
  obtain ⟨x0, x1, x2, x3, x4, x5, xz⟩ := facts3 (S0.cells 1 rfl)
  cases hv : validB T
  · have R : Hid (runAt T slot = none) := Lib.hid (by simp [runAt, hv])
    go_enter Try.func23, Try.ntmps23
    go_wp2_with fail
    refine (TableValid_any T a c _ hx (by exact S0.reads 2 rfl)).mono ?_
    rw [hv]
    rintro e w1 ⟨rfl, hb⟩
    have S1 := S0.below hb
    clear x0 x1 x2 x3 x4 x5 xz
    obtain ⟨x0, x1, x2, x3, x4, x5, xz⟩ := facts3 (S1.cells 1 rfl)
    obtain ⟨y0, y1, y2, y3, yz⟩ := facts2 (S1.cells 0 rfl)
    go_wp2
    refine bodyPost_ret (v := runV none) (by simp [results, Try.results23, go_sem, y0, y1, runV]) rfl ⟨by rw [R.out], ?_⟩
    exact (S1.old.setCell (p := ⟨w.heap.size + 1, 0, none⟩) (by show _ ≤ w.heap.size + 1; omega) _).setCell (p := ⟨w.heap.size + 1, 1, none⟩) (by show _ ≤ w.heap.size + 1; omega) _
  · obtain ⟨⟨l1, l2⟩, _⟩ := valid_facts hv
    by_cases s0 : slot < 0
    · have R : Hid (runAt T slot = none) := Lib.hid (by simp [runAt, show inB slot 0 (T.zs.length - 1) = false from inB_false.2 (by omega)])
      have d0 : decide (slot < 0) = true := decide_eq_true s0
      go_enter Try.func23, Try.ntmps23
      go_wp2_with fail
      refine (TableValid_any T a c _ hx (by exact S0.reads 2 rfl)).mono ?_
      rw [hv]
      rintro e w1 ⟨rfl, hb⟩
      have S1 := S0.below hb
      clear x0 x1 x2 x3 x4 x5 xz
      obtain ⟨x0, x1, x2, x3, x4, x5, xz⟩ := facts3 (S1.cells 1 rfl)
      obtain ⟨y0, y1, y2, y3, yz⟩ := facts2 (S1.cells 0 rfl)
      go_wp2
      refine bodyPost_ret (v := runV none) (by simp [results, Try.results23, go_sem, y0, y1, runV]) rfl ⟨by rw [R.out], ?_⟩
      exact (S1.old.setCell (p := ⟨w.heap.size + 1, 0, none⟩) (by show _ ≤ w.heap.size + 1; omega) _).setCell (p := ⟨w.heap.size + 1, 1, none⟩) (by show _ ≤ w.heap.size + 1; omega) _

    · have d0 : decide (slot < 0) = false := decide_eq_false s0
      by_cases s1 : slot < T.zs.length
      · have d1 : decide ((T.zs.length : Int) ≤ slot) = false := decide_eq_false (by omega)
        have hi : inB slot 0 (T.zs.length - 1) = true := inB_true (by omega)
        have HQ : Hid (runAt T slot = (runsL T).find? (fun r => decide ((slot - (r.1 : Int)) % T.zs.length < (r.2 : Int)))) := Lib.hid (by simp [runAt, hv, hi])
        have HLT : Hid (∀ r ∈ runsL T, r.1 < T.zs.length ∧ r.2 ≤ T.zs.length) := Lib.hid fun r h => runs_lt l1 h
        have hrl := runs_len l1
        go_enter Try.func23, Try.ntmps23
        go_wp2_with fail
        refine (TableValid_any T a c _ hx (by exact S0.reads 2 rfl)).mono ?_
        rw [hv]
        rintro e w1 ⟨rfl, hb⟩
        have S1 := S0.below hb
        clear x0 x1 x2 x3 x4 x5 xz

        clear S0 hb
        obtain ⟨x0, x1, x2, x3, x4, x5, xz⟩ := facts3 (S1.cells 1 rfl)
        go_wp2_with fail
        refine (ringOf_any T a c _ (by exact S1.reads 2 rfl) hv).mono ?_
        rintro e w2 ⟨g, rfl, hg0, hg, hr, hb⟩
        have S2 := S1.below hb
        clear S1 hb
        go_wp2_with fail
        refine (runs_any T g w2 hv hr hg).mono ?_
        rintro e w3 ⟨a2, c2, rfl, ho, hb⟩
        have S3 := S2.below hb
        have HO := Lib.hid ho
        clear x0 x1 x2 x3 x4 x5 xz S2 hb ho hr
        generalize runsL T = rs at HQ HLT hrl HO
        obtain ⟨n, hn⟩ : ∃ n, rs.length = n := ⟨_, rfl⟩
        rw [hn] at HO hrl
        go_wp2_with fail
        go_loopw [8, 29] (fun _ i wr => ∃ j : Nat, j ≤ n ∧ i = .int .i64 j ∧ Hid (∀ k r, k < j → rs[k]? = some r → decide ((slot - (r.1 : Int)) % T.zs.length < (r.2 : Int)) = false) ∧ Hid (wr.ownsRow w2.heap.size 37 2 (.slice a2 n c2) n (cellsR rs)) ∧
            St w wr [It.box (w.heap.size + 1) #[.int .i64 0, .int .i64 0] 37]) (fun _ i _ => n - (intOf i).toNat)
        case atStart => exact ⟨0, Nat.zero_le _, rfl, Lib.hid (fun k r hk => by omega), HO, S3.turn fun i hi => by
          simp only [List.mem_cons, List.not_mem_nil, or_false] at hi
          subst hi; simp⟩
        case round =>
          obtain ⟨j, hj, rfl, HF, HR, Sr⟩ := hrel
          clear S3 HO
          obtain ⟨y0, y1, y2, y3, yz⟩ := facts2 (Sr.cells 0 rfl)
          by_cases hlt : j < n
          · obtain ⟨⟨p, q⟩, hpq⟩ : ∃ r, rs[j]? = some r := ⟨_, List.getElem?_eq_getElem (by rw [hn]; exact hlt)⟩
            obtain ⟨hp, hq⟩ := HLT.out _ (List.mem_of_getElem? hpq)
            simp only at hp hq
            obtain ⟨g', rfl, q1, q2⟩ := runs_at HR.out hlt hpq
            have HPQ := Lib.hid hpq
            have S4 := Sr.alloc #[.int .i64 p, .int .i64 q] 37
            have R4 := Lib.hid (HR.out.alloc (.cells #[.int .i64 p, .int .i64 q] 37))
            clear hpq Sr
            go_wp2_with fail
            clear q1 q2 y0 y1 y2 y3 yz
            obtain ⟨z0, z1, z2, z3, zz⟩ := facts2 (S4.cells 0 rfl)
            have HW : Hid (∀ W : World, Calls Try.prog 54 #[.slice (some ⟨g, 0, none⟩) T.zs.length T.zs.length, .int .i64 (slot - (p : Int))] W fun e w' => e = .returned (.int .i64 ((slot - (p : Int)) % T.zs.length)) ∧ w' = W) := Lib.hid fun W => (wrap_any (some ⟨g, 0, none⟩) T.zs.length T.zs.length (slot - (p : Int)) W l1 l2 (by omega) (by omega)).mono fun e w' h => ⟨h.1, h.2.symm⟩
            have s2 : 0 ≤ slot := by omega
            have s3 : slot ≤ 15 := by omega
            have p2 : (p : Int) ≤ 15 := by omega
            have e0 : -9223372036854775808 ≤ slot - (p : Int) := by omega
            have e1 : slot - (p : Int) ≤ 9223372036854775807 := by omega
            have hw : IntKind.i64.wrap (slot - (p : Int)) = slot - (p : Int) := IntWalk.i64_in _ ⟨e0, e1⟩
            go_quiet ((go_at_call 54; refine Calls.quiet_of_same (HW.out _)))
            have R5 := Lib.hid fun m => ownsRow_drewN R4.out m
            have S5 := fun m => (S4.drewN m).turn (l' := [It.box (w.heap.size + 1) #[.int .i64 0, .int .i64 0] 37]) fun i hi => List.mem_cons_of_mem _ hi
            have HS5 := Lib.hid S5
            clear S5 S4 R4
            cases hd : decide ((slot - (p : Int)) % (T.zs.length : Int) < (q : Int))
            · have HF2 : Hid (∀ k r, k < j + 1 → rs[k]? = some r → decide ((slot - (r.1 : Int)) % T.zs.length < (r.2 : Int)) = false) := Lib.hid (fun k r hk hr => by
                rcases Nat.lt_succ_iff_lt_or_eq.1 hk with h | rfl
                · exact HF.out k r h hr
                · rw [HPQ.out] at hr; cases hr; exact hd)
              go_wp2
              go_roundw
              case rel => exact ⟨j + 1, by omega, by go_num, HF2, R5.out _, HS5.out _⟩
              case measure => simp [intOf]; omega
            · have R : Hid (runAt T slot = some (p, q)) := Lib.hid (by rw [HQ.out]; exact find_hit (fun i y hi hy => HF.out i y hi hy) HPQ.out hd)
              have S6 := HS5.out nq
              obtain ⟨y0, y1, y2, y3, yz⟩ := facts2 (S6.cells 0 rfl)
              go_wp2
              refine bodyPost_ret (v := runV (some (p, q))) (by simp [results, Try.results23, go_sem, y0, y1, runV]) rfl ⟨by rw [R.out], ?_⟩
              exact (S6.old.setCell (p := ⟨w.heap.size + 1, 0, none⟩) (by show _ ≤ w.heap.size + 1; omega) _).setCell (p := ⟨w.heap.size + 1, 1, none⟩) (by show _ ≤ w.heap.size + 1; omega) _
          · have R : Hid (runAt T slot = none) := Lib.hid (by rw [HQ.out]; exact find_miss (fun i y hi hy => HF.out i y (by omega) hy))
            go_wp2
            refine bodyPost_ret (v := runV none) (by simp [results, Try.results23, go_sem, y0, y1, runV]) rfl ⟨by rw [R.out], ?_⟩
            exact (Sr.old.setCell (p := ⟨w.heap.size + 1, 0, none⟩) (by show _ ≤ w.heap.size + 1; omega) _).setCell (p := ⟨w.heap.size + 1, 1, none⟩) (by show _ ≤ w.heap.size + 1; omega) _
      · have R : Hid (runAt T slot = none) := Lib.hid (by simp [runAt, show inB slot 0 (T.zs.length - 1) = false from inB_false.2 (by omega)])
        have d1 : decide ((T.zs.length : Int) ≤ slot) = true := decide_eq_true (by omega)
        go_enter Try.func23, Try.ntmps23
        go_wp2_with fail
        refine (TableValid_any T a c _ hx (by exact S0.reads 2 rfl)).mono ?_
        rw [hv]
        rintro e w1 ⟨rfl, hb⟩
        have S1 := S0.below hb
        clear x0 x1 x2 x3 x4 x5 xz
        obtain ⟨x0, x1, x2, x3, x4, x5, xz⟩ := facts3 (S1.cells 1 rfl)
        obtain ⟨y0, y1, y2, y3, yz⟩ := facts2 (S1.cells 0 rfl)
        go_wp2
        refine bodyPost_ret (v := runV none) (by simp [results, Try.results23, go_sem, y0, y1, runV]) rfl ⟨by rw [R.out], ?_⟩
        exact (S1.old.setCell (p := ⟨w.heap.size + 1, 0, none⟩) (by show _ ≤ w.heap.size + 1; omega) _).setCell (p := ⟨w.heap.size + 1, 1, none⟩) (by show _ ≤ w.heap.size + 1; omega) _


end Go.Proofs.Ytpncpeokdcolpaa

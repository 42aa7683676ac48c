/-
  FairMiss of the model.
-/
import Derived.Test.YtpncpeokdcolpaaGreatDoorModel6All
import Derived.Test.YtpncpeokdcolpaaGreatDoorMath
import Derived.Test.YtpncpeokdcolpaaGreatDoorFairAll
import Derived.Test.YtpncpeokdcolpaaGreatDoorWay
namespace Go.Proofs.YtpncpeokdcolpaaGreatDoor
open Go.RowKit

theorem near_end {T : Tab} (hf : fairB T = true) {h : Nat} (hh : h < T.zs.length) : cntN (nearAt T h) T.zs.length = goN (nearAt T h) T.zs.length + 1 ∧ goN (nearAt T h) T.zs.length < T.zs.length := by
  obtain ⟨_, hfm, _⟩ := fair_parts hf
  obtain ⟨d, hd, e⟩ := free_step hh hfm
  have hlt : goN (nearAt T h) T.zs.length < T.zs.length := by
    refine Nat.lt_of_not_le fun hn => ?_
    have := goN_free (p := nearAt T h) (n := T.zs.length) (j := d) (by omega)
    unfold nearAt at this
    rw [free_away (by omega)] at this
    have := of_decide_eq_false this
    omega
  unfold cntN
  omega

set_option maxRecDepth 100000 in
set_option maxHeartbeats 4000000 in
theorem specFairMiss_any (T : Tab) (a : Option Addr) (c : Nat) (home : Int) (w : World) (hx : T.zs.length ≤ 9223372036854775807) (h1 : IntsAt w a T.zs) :
    Calls Tryz.prog 9 #[tabV T a c, .int .i64 home] w fun e w' => e = .returned (.int .i64 (fmissI T home)) ∧ Below w.heap.size w w' := by
  have S0 := tabBox c 27 h1
  cases hf : fairB T
  · go_enter Tryz.func9, Tryz.ntmps9
    go_wp2_with fail
    refine (specIsFair_any T a c _ hx (by exact S0.reads 1 rfl)).mono ?_
    rw [hf]
    rintro e w1 ⟨rfl, hb⟩
    have S1 := S0.below hb
    go_wp2
    go_ret
    exact ⟨by simp [fmissI, hf], S1.old⟩
  · obtain ⟨hp, hfm, _⟩ := fair_parts hf
    obtain ⟨_, hv, _⟩ := plain_parts hp
    obtain ⟨⟨l1, l2⟩, _⟩ := valid_facts hv
    have HFB := Lib.hid hf
    cases hi : inB home 0 (T.zs.length - 1)
    · have R : Hid (fmissI T home = -1) := Lib.hid (by simp [fmissI, hi])
      clear hf
      go_enter Tryz.func9, Tryz.ntmps9
      go_wp2_with fail
      refine (specIsFair_any T a c _ hx (by exact S0.reads 1 rfl)).mono ?_
      rw [HFB.out]
      rintro e w1 ⟨rfl, hb⟩
      have S1 := S0.below hb
      obtain ⟨x0, x1, x2, x3, x4, x5, xz⟩ := facts3 (S1.cells 0 rfl)
      go_wp2_with (first | (go_at_call 38; refine (l1In_any _ _ _ _).mono ?_; rintro e w' ⟨rfl, rfl⟩))
      go_ret
      exact ⟨by rw [R.out]; rfl, S1.old⟩
    · obtain ⟨s0, s1⟩ := inB_iff.1 hi
      obtain ⟨h, rfl⟩ : ∃ h : Nat, home = h := ⟨home.toNat, by omega⟩
      have hh : h < T.zs.length := by omega
      obtain ⟨ne1, ne2⟩ := near_end hf hh
      have R : Hid (fmissI T h = (goN (nearAt T h) T.zs.length : Nat) + 1) := Lib.hid (by simp only [fmissI, hf, hi, fmissN, Int.toNat_natCast, Bool.and_self, if_true]; rw [ne1]; rfl)
      have HPN : Hid (∀ d, d < goN (nearAt T h) T.zs.length → nearAt T h d = false) := Lib.hid fun d hd => goN_free hd
      have HPE : Hid (nearAt T h (goN (nearAt T h) T.zs.length) = true) := Lib.hid (goN_stop ne2)
      have HV := Lib.hid hv
      have HPL := Lib.hid fun (s : Nat) (hs : s < T.zs.length) hne => (plain_key hp hs hne)
      clear hf hv ne1 hp hfm
      generalize goN (nearAt T h) T.zs.length = pn at R HPN HPE ne2
      go_enter Tryz.func9, Tryz.ntmps9
      go_wp2_with fail
      refine (specIsFair_any T a c _ hx (by exact S0.reads 1 rfl)).mono ?_
      rw [HFB.out]
      rintro e w1 ⟨rfl, hb⟩
      have S1 := S0.below hb
      clear S0 hb
      obtain ⟨x0, x1, x2, x3, x4, x5, xz⟩ := facts3 (S1.cells 0 rfl)
      go_wp2_with (first | (go_at_call 38; refine (l1In_any _ _ _ _).mono ?_; rintro e w' ⟨rfl, rfl⟩))
      clear x0 x1 x2 x3 x4 x5 xz
      go_loopw [6] (fun i wr => ∃ (d : Nat), d ≤ pn ∧ i = .int .i64 d ∧ St w wr [It.box w.heap.size #[.int .i64 T.t, .int .i64 T.p, .slice a T.zs.length c] 27, It.read w.heap.size a T.zs]) (fun i _ => pn - (intOf i).toNat)
      case atStart => exact ⟨0, Nat.zero_le _, rfl, S1⟩
      case round =>
        obtain ⟨d, hd, rfl, Sr⟩ := hrel
        clear S1
        have hst := stepS_lt (T := T) l1 h d
        have hq := step_cast T h d
        have HNA : Hid (nearAt T h d = decide (awayOf T (stepS T h d : Nat) < (d : Int))) := Lib.hid rfl
        have hnd := Lib.hid (HPN.out d)
        have hne := Lib.hid fun (e : d = pn) => (show nearAt T h d = true by rw [e]; exact HPE.out)
        have hfa := Lib.hid fun (e : nth T.zs (stepS T h d) = -1) => (show awayOf T (stepS T h d : Nat) = -1 from free_away (by omega))
        have HK := Lib.hid fun hne => HPL.out (stepS T h d) hst hne
        have HAE := Lib.hid fun (h0 : 0 ≤ nth T.zs (stepS T h d)) => awayOf_yes HV.out hst rfl h0
        have HHH := Lib.hid fun (x : Int) (h0 : 0 ≤ x) (h9 : x ≤ 99) (W : World) => l1Home_any T a c x W HV.out h0 h9
        obtain ⟨x0, x1, x2, x3, x4, x5, xz⟩ := facts3 (Sr.cells 0 rfl)
        generalize stepS T h d = s at hst hq HNA hfa HK HAE
        obtain ⟨b, o, x, rfl, q, X⟩ := (Sr.reads 1 rfl).at hst
        rw [X.out] at hfa HK HAE
        generalize nearAt T h d = nr at HNA hnd hne
        have zb : b < wr.heap.size := World.block_lt_of_cell? wr _ q
        have zt : w.heap.size < wr.heap.size := Sr.sz 0 rfl
        have s0' : (0 : Int) ≤ (s : Int) := by omega
        have s1' : (s : Int) < (T.zs.length : Int) := by omega
        have ln : ((T.zs.length : Int) == 0) = false := beq_eq_false_iff_ne.2 (by omega)
        have hmix : Tryz.prog.follows .mixedOrders = true := by kernel_rfl
        have HPD : Hid (nr = true → d = pn) := Lib.hid fun e => by
          by_cases c : d < pn
          · have := hnd.out c; rw [e] at this; cases this
          · omega
        have HPD2 : Hid (nr = false → d < pn) := Lib.hid fun e => by
          refine Nat.lt_of_le_of_ne hd fun c => ?_
          have := hne.out c; rw [e] at this; cases this
        clear hnd hne
        by_cases c1 : x = -1
        · subst c1
          have ha := hfa.out rfl
          have hnr : nr = true := by rw [HNA.out, ha]; exact decide_eq_true (by omega)
          obtain rfl := HPD.out hnr
          clear hfa HK HAE HHH HNA HPD HPD2 ha
          go_wp2_with fail
          refine (wpIn_wide (n := 9)).1 ?_
          refine wpIn_region_quietR (fun w' => Below wr.heap.size wr w') hmix (by kernel_rfl) (by kernel_rfl) ((Below.refl _ _).drew) ?_
          refine wpQuietIn_step (fun _ _ _ _ => trivial) (fun K hK => ?_)
          go_simp
          refine ⟨_, fun w' hb => rfl, hK _ ?_⟩
          clear hK K
          refine wpQuietIn_step (fun _ _ _ _ => trivial) (fun K hK => ?_)
          go_simp
          refine ⟨.slice (some ⟨b, o, none⟩) T.zs.length c, fun w' hb => ?_, hK _ ?_⟩
          · have q2 := (hb.cell (p := ⟨w.heap.size, 2, none⟩) (by show w.heap.size < _; omega)).trans x2
            go_simp
          clear hK K
          refine wpQuietIn_step (fun _ _ _ _ => trivial) (fun K hK => ?_)
          go_simp
          refine ⟨_, fun w' hb => rfl, hK _ ?_⟩
          clear hK K
          refine wpQuietIn_step (fun _ _ _ _ => trivial) (fun K hK => ?_)
          go_simp
          refine ⟨_, fun w' hb => rfl, hK _ ?_⟩
          clear hK K
          refine wpQuietIn_step (fun _ _ _ _ => trivial) (fun K hK => ?_)
          go_simp
          refine ⟨.int .i64 (-1), fun w' hb => ?_, hK _ ?_⟩
          · have qq := (hb.cell (p := ⟨b, o + s, none⟩) (by show b < _; omega)).trans q
            go_simp
          clear hK K
          refine wpQuietIn_step (fun _ _ _ _ => trivial) (fun K hK => ?_)
          go_simp
          refine ⟨_, fun w' hb => rfl, hK _ ?_⟩
          clear hK K
          refine wpQuietIn_step (fun _ _ _ _ => trivial) (fun K hK => ?_)
          go_simp
          refine ⟨_, fun w' hb => rfl, hK _ ?_⟩
          clear hK K
          refine wpQuietIn_step (fun _ _ _ _ => trivial) (fun K hK => ?_)
          go_simp
          refine hK _ ?_
          clear hK K
          refine wpQuietIn_step (fun _ _ _ _ => trivial) (fun K hK => ?_)
          go_simp
          refine hK _ ?_
          clear hK K
          refine wpQuietIn_step (fun _ _ _ _ => trivial) (fun K hK => ?_)
          go_simp
          refine hK _ ?_
          clear hK K
          refine wpQuietIn_step (fun _ _ _ _ => trivial) (fun K hK => ?_)
          go_simp
          refine hK _ ?_
          clear hK K
          refine wpQuietIn_step (fun _ _ _ _ => trivial) (fun K hK => ?_)
          go_simp
          refine hK _ ?_
          clear hK K
          refine wpQuietIn_step (fun _ _ _ _ => trivial) (fun K hK => ?_)
          go_simp
          refine hK _ ?_
          clear hK K
          refine wpQuietIn_step (fun _ _ _ _ => trivial) (fun K hK => ?_)
          go_simp
          refine hK _ ?_
          clear hK K
          refine wpQuietIn_step (fun _ _ _ _ => trivial) (fun K hK => ?_)
          go_simp
          refine hK _ ?_
          clear hK K
          refine wpQuietIn_step (fun _ _ _ _ => trivial) (fun K hK => ?_)
          go_simp
          refine hK _ ?_
          clear hK K
          refine wpQuietIn_step (fun _ _ _ _ => trivial) (fun K hK => ?_)
          go_simp
          refine hK _ ?_
          clear hK K
          refine wpQuietIn_step (fun _ _ _ _ => trivial) (fun K hK => ?_)
          go_simp
          refine hK _ ?_
          clear hK K
          refine wpQuietIn_step (fun _ _ _ _ => trivial) (fun K hK => ?_)
          go_simp
          refine hK _ ?_
          clear hK K
          refine wpQuietIn_step (fun _ _ _ _ => trivial) (fun K hK => ?_)
          go_simp
          refine ⟨_, fun w' hb => rfl, hK _ ?_⟩
          clear hK K
          refine fun w10 hb => ?_
          have S9 := Sr.below hb
          clear x0 x1 x2 x3 x4 x5 xz

          go_wp2
          go_ret
          exact ⟨by rw [R.out]; go_num, S9.old⟩
        · have e1 : (x == -1) = false := beq_eq_false_iff_ne.2 c1
          obtain ⟨k0, k9⟩ := HK.out c1
          have ha := HAE.out k0
          obtain ⟨hm, HM⟩ : ∃ hm, homeI T x = hm := ⟨_, rfl⟩
          have hmb := homeI_bounds HV.out x
          have HHM := Lib.hid (HHH.out x k0 k9)
          rw [HM] at ha hmb HHM
          have HAW := fun (W : World) => l1Away_any T (some ⟨b, o, none⟩) c hm s W l1 l2 (by omega) (by omega) (by omega) (by omega)
          rw [ha] at HAW
          have HAW := Lib.hid HAW
          clear hfa HK HAE HHH HM ha
          generalize awayOf T (s : Int) = aw at HNA HAW
          by_cases c2 : aw < (d : Int)
          · have d1 : decide (aw < (d : Int)) = true := decide_eq_true c2
            obtain rfl := HPD.out (by rw [HNA.out, d1])
            clear HNA HPD HPD2
            go_wp2_with fail
            refine (wpIn_wide (n := 9)).1 ?_
            refine wpIn_region_quietR (fun w' => Below wr.heap.size wr w') hmix (by kernel_rfl) (by kernel_rfl) ((Below.refl _ _).drew) ?_
            refine wpQuietIn_step (fun _ _ _ _ => trivial) (fun K hK => ?_)
            go_simp
            refine ⟨_, fun w' hb => rfl, hK _ ?_⟩
            clear hK K
            refine wpQuietIn_step (fun _ _ _ _ => trivial) (fun K hK => ?_)
            go_simp
            refine ⟨.slice (some ⟨b, o, none⟩) T.zs.length c, fun w' hb => ?_, hK _ ?_⟩
            · have q2 := (hb.cell (p := ⟨w.heap.size, 2, none⟩) (by show w.heap.size < _; omega)).trans x2
              go_simp
            clear hK K
            refine wpQuietIn_step (fun _ _ _ _ => trivial) (fun K hK => ?_)
            go_simp
            refine ⟨_, fun w' hb => rfl, hK _ ?_⟩
            clear hK K
            refine wpQuietIn_step (fun _ _ _ _ => trivial) (fun K hK => ?_)
            go_simp
            refine ⟨_, fun w' hb => rfl, hK _ ?_⟩
            clear hK K
            refine wpQuietIn_step (fun _ _ _ _ => trivial) (fun K hK => ?_)
            go_simp
            refine ⟨.int .i64 x, fun w' hb => ?_, hK _ ?_⟩
            · have qq := (hb.cell (p := ⟨b, o + s, none⟩) (by show b < _; omega)).trans q
              go_simp
            clear hK K
            refine wpQuietIn_step (fun _ _ _ _ => trivial) (fun K hK => ?_)
            go_simp
            refine ⟨_, fun w' hb => rfl, hK _ ?_⟩
            clear hK K
            refine wpQuietIn_step (fun _ _ _ _ => trivial) (fun K hK => ?_)
            go_simp
            refine ⟨_, fun w' hb => rfl, hK _ ?_⟩
            clear hK K
            refine wpQuietIn_step (fun _ _ _ _ => trivial) (fun K hK => ?_)
            go_simp
            refine ⟨tabV T (some ⟨b, o, none⟩) c, fun w' hb => ?_, hK _ ?_⟩
            · have q0 := (hb.cell (p := ⟨w.heap.size, 0, none⟩) (by show w.heap.size < _; omega)).trans x0
              have q1 := (hb.cell (p := ⟨w.heap.size, 1, none⟩) (by show w.heap.size < _; omega)).trans x1
              have q2 := (hb.cell (p := ⟨w.heap.size, 2, none⟩) (by show w.heap.size < _; omega)).trans x2
              unfold tabV
              go_simp
            clear hK K
            refine wpQuietIn_step (fun _ _ _ _ => trivial) (fun K hK => ?_)
            go_simp
            refine ⟨tabV T (some ⟨b, o, none⟩) c, fun w' hb => ?_, hK _ ?_⟩
            · have q0 := (hb.cell (p := ⟨w.heap.size, 0, none⟩) (by show w.heap.size < _; omega)).trans x0
              have q1 := (hb.cell (p := ⟨w.heap.size, 1, none⟩) (by show w.heap.size < _; omega)).trans x1
              have q2 := (hb.cell (p := ⟨w.heap.size, 2, none⟩) (by show w.heap.size < _; omega)).trans x2
              unfold tabV
              go_simp
            clear hK K
            refine wpQuietIn_step (fun _ _ _ _ => trivial) (fun K hK => ?_)
            go_simp
            refine ⟨_, fun w' hb => rfl, hK _ ?_⟩
            clear hK K
            refine wpQuietIn_step (fun _ _ _ _ => trivial) (fun K hK => ?_)
            go_simp
            refine ⟨.slice (some ⟨b, o, none⟩) T.zs.length c, fun w' hb => ?_, hK _ ?_⟩
            · have q2 := (hb.cell (p := ⟨w.heap.size, 2, none⟩) (by show w.heap.size < _; omega)).trans x2
              go_simp
            clear hK K
            refine wpQuietIn_step (fun _ _ _ _ => trivial) (fun K hK => ?_)
            go_simp
            refine ⟨_, fun w' hb => rfl, hK _ ?_⟩
            clear hK K
            refine wpQuietIn_step (fun _ _ _ _ => trivial) (fun K hK => ?_)
            go_simp
            refine ⟨_, fun w' hb => rfl, hK _ ?_⟩
            clear hK K
            refine wpQuietIn_step (fun _ _ _ _ => trivial) (fun K hK => ?_)
            go_simp
            refine ⟨.int .i64 x, fun w' hb => ?_, hK _ ?_⟩
            · have qq := (hb.cell (p := ⟨b, o + s, none⟩) (by show b < _; omega)).trans q
              go_simp
            clear hK K
            refine wpQuietIn_step (fun _ _ _ _ => trivial) (fun K hK => ?_)
            go_simp
            refine ⟨.int .i64 hm, fun w' hb => (callsIn_wide.2 (HHM.out w')).mono ?_, hK _ ?_⟩
            · rintro e w10 ⟨rfl, hb6⟩
              exact ⟨rfl, hb.trans (hb6.mono hb.size)⟩
            clear hK K
            refine wpQuietIn_step (fun _ _ _ _ => trivial) (fun K hK => ?_)
            go_simp
            refine ⟨_, fun w' hb => rfl, hK _ ?_⟩
            clear hK K
            refine wpQuietIn_step (fun _ _ _ _ => trivial) (fun K hK => ?_)
            go_simp
            refine ⟨.int .i64 aw, fun w' hb => (callsIn_wide.2 (HAW.out w')).mono ?_, hK _ ?_⟩
            · rintro e w10 ⟨rfl, hb6⟩
              exact ⟨rfl, hb.trans (hb6.mono hb.size)⟩
            clear hK K
            refine wpQuietIn_step (fun _ _ _ _ => trivial) (fun K hK => ?_)
            go_simp
            refine ⟨_, fun w' hb => rfl, hK _ ?_⟩
            clear hK K
            refine wpQuietIn_step (fun _ _ _ _ => trivial) (fun K hK => ?_)
            go_simp
            refine ⟨_, fun w' hb => rfl, hK _ ?_⟩
            clear hK K
            refine wpQuietIn_step (fun _ _ _ _ => trivial) (fun K hK => ?_)
            go_simp
            refine ⟨_, fun w' hb => rfl, hK _ ?_⟩
            clear hK K
            refine fun w10 hb => ?_
            have S9 := Sr.below hb
            clear x0 x1 x2 x3 x4 x5 xz

            go_wp2
            go_ret
            exact ⟨by rw [R.out]; go_num, S9.old⟩
          · have d1 : decide (aw < (d : Int)) = false := decide_eq_false c2
            have hlt := HPD2.out (by rw [HNA.out, d1])
            clear HNA HPD HPD2
            go_wp2_with fail
            refine (wpIn_wide (n := 9)).1 ?_
            refine wpIn_region_quietR (fun w' => Below wr.heap.size wr w') hmix (by kernel_rfl) (by kernel_rfl) ((Below.refl _ _).drew) ?_
            refine wpQuietIn_step (fun _ _ _ _ => trivial) (fun K hK => ?_)
            go_simp
            refine ⟨_, fun w' hb => rfl, hK _ ?_⟩
            clear hK K
            refine wpQuietIn_step (fun _ _ _ _ => trivial) (fun K hK => ?_)
            go_simp
            refine ⟨.slice (some ⟨b, o, none⟩) T.zs.length c, fun w' hb => ?_, hK _ ?_⟩
            · have q2 := (hb.cell (p := ⟨w.heap.size, 2, none⟩) (by show w.heap.size < _; omega)).trans x2
              go_simp
            clear hK K
            refine wpQuietIn_step (fun _ _ _ _ => trivial) (fun K hK => ?_)
            go_simp
            refine ⟨_, fun w' hb => rfl, hK _ ?_⟩
            clear hK K
            refine wpQuietIn_step (fun _ _ _ _ => trivial) (fun K hK => ?_)
            go_simp
            refine ⟨_, fun w' hb => rfl, hK _ ?_⟩
            clear hK K
            refine wpQuietIn_step (fun _ _ _ _ => trivial) (fun K hK => ?_)
            go_simp
            refine ⟨.int .i64 x, fun w' hb => ?_, hK _ ?_⟩
            · have qq := (hb.cell (p := ⟨b, o + s, none⟩) (by show b < _; omega)).trans q
              go_simp
            clear hK K
            refine wpQuietIn_step (fun _ _ _ _ => trivial) (fun K hK => ?_)
            go_simp
            refine ⟨_, fun w' hb => rfl, hK _ ?_⟩
            clear hK K
            refine wpQuietIn_step (fun _ _ _ _ => trivial) (fun K hK => ?_)
            go_simp
            refine ⟨_, fun w' hb => rfl, hK _ ?_⟩
            clear hK K
            refine wpQuietIn_step (fun _ _ _ _ => trivial) (fun K hK => ?_)
            go_simp
            refine ⟨tabV T (some ⟨b, o, none⟩) c, fun w' hb => ?_, hK _ ?_⟩
            · have q0 := (hb.cell (p := ⟨w.heap.size, 0, none⟩) (by show w.heap.size < _; omega)).trans x0
              have q1 := (hb.cell (p := ⟨w.heap.size, 1, none⟩) (by show w.heap.size < _; omega)).trans x1
              have q2 := (hb.cell (p := ⟨w.heap.size, 2, none⟩) (by show w.heap.size < _; omega)).trans x2
              unfold tabV
              go_simp
            clear hK K
            refine wpQuietIn_step (fun _ _ _ _ => trivial) (fun K hK => ?_)
            go_simp
            refine ⟨tabV T (some ⟨b, o, none⟩) c, fun w' hb => ?_, hK _ ?_⟩
            · have q0 := (hb.cell (p := ⟨w.heap.size, 0, none⟩) (by show w.heap.size < _; omega)).trans x0
              have q1 := (hb.cell (p := ⟨w.heap.size, 1, none⟩) (by show w.heap.size < _; omega)).trans x1
              have q2 := (hb.cell (p := ⟨w.heap.size, 2, none⟩) (by show w.heap.size < _; omega)).trans x2
              unfold tabV
              go_simp
            clear hK K
            refine wpQuietIn_step (fun _ _ _ _ => trivial) (fun K hK => ?_)
            go_simp
            refine ⟨_, fun w' hb => rfl, hK _ ?_⟩
            clear hK K
            refine wpQuietIn_step (fun _ _ _ _ => trivial) (fun K hK => ?_)
            go_simp
            refine ⟨.slice (some ⟨b, o, none⟩) T.zs.length c, fun w' hb => ?_, hK _ ?_⟩
            · have q2 := (hb.cell (p := ⟨w.heap.size, 2, none⟩) (by show w.heap.size < _; omega)).trans x2
              go_simp
            clear hK K
            refine wpQuietIn_step (fun _ _ _ _ => trivial) (fun K hK => ?_)
            go_simp
            refine ⟨_, fun w' hb => rfl, hK _ ?_⟩
            clear hK K
            refine wpQuietIn_step (fun _ _ _ _ => trivial) (fun K hK => ?_)
            go_simp
            refine ⟨_, fun w' hb => rfl, hK _ ?_⟩
            clear hK K
            refine wpQuietIn_step (fun _ _ _ _ => trivial) (fun K hK => ?_)
            go_simp
            refine ⟨.int .i64 x, fun w' hb => ?_, hK _ ?_⟩
            · have qq := (hb.cell (p := ⟨b, o + s, none⟩) (by show b < _; omega)).trans q
              go_simp
            clear hK K
            refine wpQuietIn_step (fun _ _ _ _ => trivial) (fun K hK => ?_)
            go_simp
            refine ⟨.int .i64 hm, fun w' hb => (callsIn_wide.2 (HHM.out w')).mono ?_, hK _ ?_⟩
            · rintro e w10 ⟨rfl, hb6⟩
              exact ⟨rfl, hb.trans (hb6.mono hb.size)⟩
            clear hK K
            refine wpQuietIn_step (fun _ _ _ _ => trivial) (fun K hK => ?_)
            go_simp
            refine ⟨_, fun w' hb => rfl, hK _ ?_⟩
            clear hK K
            refine wpQuietIn_step (fun _ _ _ _ => trivial) (fun K hK => ?_)
            go_simp
            refine ⟨.int .i64 aw, fun w' hb => (callsIn_wide.2 (HAW.out w')).mono ?_, hK _ ?_⟩
            · rintro e w10 ⟨rfl, hb6⟩
              exact ⟨rfl, hb.trans (hb6.mono hb.size)⟩
            clear hK K
            refine wpQuietIn_step (fun _ _ _ _ => trivial) (fun K hK => ?_)
            go_simp
            refine ⟨_, fun w' hb => rfl, hK _ ?_⟩
            clear hK K
            refine wpQuietIn_step (fun _ _ _ _ => trivial) (fun K hK => ?_)
            go_simp
            refine ⟨_, fun w' hb => rfl, hK _ ?_⟩
            clear hK K
            refine wpQuietIn_step (fun _ _ _ _ => trivial) (fun K hK => ?_)
            go_simp
            refine ⟨_, fun w' hb => rfl, hK _ ?_⟩
            clear hK K
            refine fun w10 hb => ?_
            have S9 := Sr.below hb
            clear x0 x1 x2 x3 x4 x5 xz

            go_wp2
            go_roundw
            case rel => exact ⟨d + 1, by omega, by go_num, S9⟩
            case measure => simp [intOf]; omega

end Go.Proofs.YtpncpeokdcolpaaGreatDoor

/-
  FairVisits of the model.
-/
import Derived.Test.YtdoodkdlfkekmaaGreatDoorFairS
namespace Go.Proofs.YtdoodkdlfkekmaaGreatDoor
open Go.RowKit

theorem next_step {T : Tab} {h d : Nat} : ((stepS T h d : Nat) + 1 : Int) % (T.zs.length : Int) = (stepS T h (d + 1) : Nat) := by
  unfold stepS
  have : (((h + d) % T.zs.length : Nat) + 1 : Int) % (T.zs.length : Int) = ((((h + d) % T.zs.length + 1) % T.zs.length : Nat) : Int) := by simp
  rw [this, Nat.mod_add_mod, Nat.add_assoc]

set_option maxRecDepth 100000 in
set_option maxHeartbeats 4000000 in
theorem specFairVisits_any (T : Tab) (a : Option Addr) (c : Nat) (key : Int) (w : World) (hx : T.zs.length ≤ 9223372036854775807) (h1 : IntsAt w a T.zs) :
    Calls Tryz.prog 12 #[tabV T a c, .int .i64 key] w fun e w' => e = .returned (.int .i64 (fairVis T key)) ∧ Below w.heap.size w w' := by
  have S0 := tabBox c 27 h1
  have HF := Lib.hid fun (W : World) (h : IntsAt W a T.zs) => specIsFair_any T a c W hx h
  cases hf : fairB T
  · have E : Hid (fairVis T key = -1) := Lib.hid (by simp [fairVis, hf])
    rw [hf] at HF
    go_enter Tryz.func12, Tryz.ntmps12
    go_wp2_with fail
    refine (HF.out _ (by exact S0.reads 1 rfl)).mono ?_
    rintro e w1 ⟨rfl, hb⟩
    have S1 := S0.below hb
    go_wp2
    go_ret
    exact ⟨by rw [E.out]; rfl, S1.old⟩
  · rw [hf] at HF
    cases hk : inB key 0 99
    · have E : Hid (fairVis T key = -1) := Lib.hid (by simp [fairVis, hk])
      go_enter Tryz.func12, Tryz.ntmps12
      go_wp2_with fail
      refine (HF.out _ (by exact S0.reads 1 rfl)).mono ?_
      rintro e w1 ⟨rfl, hb⟩
      have S1 := S0.below hb
      clear S0 hb
      go_wp2_with fail
      refine (l1Key_any _ _).mono ?_
      rw [hk]
      rintro e w2 ⟨rfl, rfl⟩
      go_wp2
      go_ret
      exact ⟨by rw [E.out]; rfl, S1.old⟩
    · have E : Hid (fairVis T key = (passN T key : Int) + 1) := Lib.hid (by simp [fairVis, hf, hk])
      obtain ⟨k0, k9⟩ := inB_iff.1 hk
      obtain ⟨hp, hfm, _⟩ := fair_parts hf
      obtain ⟨_, hv, _⟩ := plain_parts hp
      obtain ⟨⟨l1, l2⟩, _⟩ := valid_facts hv
      have HPN : Hid (∀ d, d < passN T key → aheadB T (stepS T (homeN T key) d) key d = true) := Lib.hid fun d hd => by
        have := goN_free hd; simpa using this
      have HPE : Hid (aheadB T (stepS T (homeN T key) (passN T key)) key (passN T key) = false) := Lib.hid (by
        have := goN_stop (p := fun d => !aheadB T (stepS T (homeN T key) d) key d) (pass_lt hv hfm key)
        simpa [passN] using this)
      have hpl := pass_lt hv hfm key
      have HFA : Hid (∀ d, nth T.zs (stepS T (homeN T key) d) = -1 → aheadB T (stepS T (homeN T key) d) key d = false) := Lib.hid fun d h => ahead_free (by rw [free_away (by omega)]; omega)
      have HSE : Hid (∀ d, d < T.zs.length → nth T.zs (stepS T (homeN T key) d) = key → aheadB T (stepS T (homeN T key) d) key d = false) := Lib.hid fun d hd h => stop_same hv k0 hd (.inr h)
      have HAH : Hid (∀ (d : Nat) (b o : Nat) W, nth T.zs (stepS T (homeN T key) d) ≠ -1 → IntsAt W (some ⟨b, o, none⟩) T.zs → Calls Tryz.prog 44 #[tabV T (some ⟨b, o, none⟩) c, .int .i64 (stepS T (homeN T key) d : Nat), .int .i64 key, .int .i64 d] W fun e W' => e = .returned (.bool (aheadB T (stepS T (homeN T key) d) key d)) ∧ Below W.heap.size W W') := Lib.hid fun d b o W hne hi => by
        have hst := stepS_lt (T := T) l1 (homeN T key) d
        exact l6Ahead_any T _ c _ key d W hv hst (plain_key hp hst hne).1 hi
      have hh := homeN_lt hv key
      have hhe := homeN_eq hv key
      have HCH := Lib.hid fun W => l1Home_any T a c key W hv k0 k9
      rw [← hhe] at HCH
      clear hhe
      generalize passN T key = pn at E HPN HPE hpl
      generalize homeN T key = hm at hh HPN HPE HFA HSE HAH HCH
      go_enter Tryz.func12, Tryz.ntmps12
      go_wp2_with fail
      refine (HF.out _ (by exact S0.reads 1 rfl)).mono ?_
      rintro e w1 ⟨rfl, hb⟩
      have S1 := S0.below hb
      clear S0 hb
      go_wp2_with fail
      refine (l1Key_any _ _).mono ?_
      rw [hk]
      rintro e w2 ⟨rfl, rfl⟩
      obtain ⟨x0, x1, x2, x3, x4, x5, xz⟩ := facts3 (S1.cells 0 rfl)
      go_wp2_with fail
      refine (HCH.out _).mono ?_
      rintro e w3 ⟨rfl, hb⟩
      have S2 := S1.below hb
      clear S1 hb x0 x1 x2 x3 x4 x5 xz HF
      have h0 : stepS T hm 0 = hm := Nat.mod_eq_of_lt hh
      go_wp2_with fail
      go_loopw [5, 6] (fun s i wr => ∃ (d : Nat), d ≤ pn ∧ i = .int .i64 d ∧ s = .int .i64 (stepS T hm d : Nat) ∧
          St w wr [It.box w.heap.size #[.int .i64 T.t, .int .i64 T.p, .slice a T.zs.length c] 27, It.read w.heap.size a T.zs]) (fun _ i _ => pn - (intOf i).toNat)
      case atStart => exact ⟨0, Nat.zero_le _, rfl, by rw [h0], S2⟩
      case round =>
        obtain ⟨d, hd, rfl, rfl, Sr⟩ := hrel
        clear S2 h0
        have hst := stepS_lt (T := T) l1 hm d
        have HNX := Lib.hid (next_step (T := T) (h := hm) (d := d))
        have HFD := Lib.hid (HFA.out d)
        have HSD := Lib.hid (HSE.out d (by omega))
        have HPD := Lib.hid (HPN.out d)
        have HAD := Lib.hid fun b o W => HAH.out d b o W
        have hpd : d = pn → aheadB T (stepS T hm d) key d = false := fun e => by subst e; exact HPE.out
        generalize stepS T hm d = s at hst HNX HFD HSD HPD HAD hpd ⊢
        obtain ⟨x0, x1, x2, x3, x4, x5, xz⟩ := facts3 (Sr.cells 0 rfl)
        obtain ⟨b, o, x, rfl, q, X⟩ := (Sr.reads 1 rfl).at hst
        rw [X.out] at HFD HSD HAD
        have s0 : (0 : Int) ≤ (s : Int) := by omega
        have s1 : (s : Int) < (T.zs.length : Int) := by omega
        have hn1 : ((T.zs.length : Int) == 0) = false := beq_eq_false_iff_ne.2 (by omega)
        have hret : aheadB T s key d = false → d = pn := fun h => by
          by_cases c : d < pn
          · have := HPD.out c; rw [h] at this; cases this
          · omega
        have HRT := Lib.hid hret
        have hpd2 := Lib.hid hpd
        clear hret hpd
        by_cases c1 : x = -1
        · subst c1
          obtain rfl := HRT.out (HFD.out rfl)
          go_wp2
          go_ret
          exact ⟨by rw [E.out]; rfl, Sr.old⟩
        · have d1 : (x == -1) = false := beq_eq_false_iff_ne.2 c1
          by_cases c2 : x = key
          · subst c2
            obtain rfl := HRT.out (HSD.out rfl)
            go_wp2
            go_ret
            exact ⟨by rw [E.out]; rfl, Sr.old⟩
          · have d2 : (x == key) = false := beq_eq_false_iff_ne.2 c2
            cases hah : aheadB T s key d
            · obtain rfl := HRT.out hah
              rw [hah] at HAD
              go_wp2_with fail
              refine (HAD.out _ _ _ c1 (by exact Sr.reads 1 rfl)).mono ?_
              rintro e w5 ⟨rfl, hb⟩
              have S5 := Sr.below hb
              go_wp2
              go_ret
              exact ⟨by rw [E.out]; rfl, S5.old⟩
            · have hlt : d < pn := by
                refine Nat.lt_of_le_of_ne hd fun e => ?_
                have := hpd2.out e
                rw [hah] at this; cases this
              rw [hah] at HAD
              go_wp2_with fail
              refine (HAD.out _ _ _ c1 (by exact Sr.reads 1 rfl)).mono ?_
              rintro e w5 ⟨rfl, hb⟩
              have S5 := Sr.below hb
              clear Sr hb x0 x1 x2 x3 x4 x5 xz q
              obtain ⟨x0, x1, x2, x3, x4, x5, xz⟩ := facts3 (S5.cells 0 rfl)
              go_wp2
              go_roundw
              case rel => exact ⟨d + 1, by omega, by go_num, by rw [HNX.out], S5⟩
              case measure => simp [intOf]; omega

end Go.Proofs.YtdoodkdlfkekmaaGreatDoor

/-
  HitVisits of the model.
-/
import Derived.Test.YtpncpeokdcolpaaMath
import Derived.Test.YtpncpeokdcolpaaLost
import Derived.Test.YtpncpeokdcolpaaWay
import Derived.Test.YtpncpeokdcolpaaAway
namespace Go.Proofs.Ytpncpeokdcolpaa
open Go.RowKit

/-- What is visited to find the first k keys of a list. -/
theorem hits_take {T : Tab} {ss : List Int} {k : Nat} (hk : k < ss.length) : hitsL T (ss.take (k + 1)) = hitsL T (ss.take k) + visOf T (nth ss k) := by
  rw [List.take_succ_eq_append_getElem hk, hitsL_snoc]
  congr 2
  simp [nth, List.getElem?_eq_getElem hk]
theorem way_len (T : Tab) (key : Int) : (wayOf T key).length = visN T key (homeN T key) := wayTo_len _ _ _

set_option maxRecDepth 100000 in
set_option maxHeartbeats 4000000 in
theorem specHitVisits_any (T : Tab) (a : Option Addr) (c : Nat) (w : World) (hx : T.zs.length ≤ 9223372036854775807) (h1 : IntsAt w a T.zs) :
    Calls Try.prog 11 #[tabV T a c] w fun e w' => e = .returned (.int .i64 (hitI T)) ∧ Below w.heap.size w w' := by
  have S0 := tabBox c 27 h1
  cases hv : soundB T
  · go_enter Try.func11, Try.ntmps11
    go_wp2_with fail
    refine (specIsSound_any T a c _ hx (by exact S0.reads 1 rfl)).mono ?_
    rw [hv]
    rintro e w1 ⟨rfl, hb⟩
    have S1 := S0.below hb
    go_wp2
    go_ret
    exact ⟨by simp [hitI, hv], S1.old⟩
  · have hvv : validB T = true := by
      simp only [soundB, Bool.and_eq_true] at hv
      exact hv.1
    have R : Hid (hitI T = hitsL T (sortU T.zs)) := Lib.hid (by simp [hitI, hv])
    have HV := Lib.hid hv
    have HVV := Lib.hid hvv
    have hsl : (sortU T.zs).length ≤ 100 := sortTo_len _ _
    have HK : Hid (∀ k, k < (sortU T.zs).length → inB (nth (sortU T.zs) k) 0 99 = true) := Lib.hid fun k hk => inB_true (sortU_mem.1 (nth_mem' hk)).1
    clear hv hvv
    go_enter Try.func11, Try.ntmps11
    go_wp2_with fail
    refine (specIsSound_any T a c _ hx (by exact S0.reads 1 rfl)).mono ?_
    rw [HV.out]
    rintro e w1 ⟨rfl, hb⟩
    have S1 := S0.below hb
    clear S0 hb
    obtain ⟨x0, x1, x2, x3, x4, x5, xz⟩ := facts3 (S1.cells 0 rfl)
    go_wp2_with fail
    refine (l1Sort_any a c T.zs _ hx (by exact S1.reads 1 rfl)).mono ?_
    rintro e w2 ⟨a2, c2, rfl, ho, hb⟩
    have S2 := (S1.below hb).own ho
    clear S1 hb ho x0 x1 x2 x3 x4 x5 xz
    generalize sortU T.zs = ss at hsl HK S2 R
    obtain ⟨n, hn⟩ : ∃ n, ss.length = n := ⟨_, rfl⟩
    have HT : Hid (hitsL T ss = hitsL T (ss.take n)) := Lib.hid (by rw [← hn, List.take_length])
    have hb0 : ∀ k, k ≤ n → 0 ≤ hitsL T (ss.take k) ∧ hitsL T (ss.take k) ≤ 1600 := fun k hk => by
      have := hitsL_bounds HVV.out (l := ss.take k) fun x hx => by
        obtain ⟨i, hi, e⟩ := mem_nth (List.mem_of_mem_take hx)
        rw [← e]; exact HK.out i hi
      have hl : (ss.take k).length ≤ k := List.length_take_le _ _
      omega
    have HB0 := Lib.hid hb0
    clear hb0
    have z2 := S2.sz 1 rfl
    generalize hB : w1.heap.size = B1 at S2
    generalize hH : w2.heap.size = H2 at S2
    go_wp2_with fail
    go_loopw [3, 13] (fun s i wr => ∃ (d : Nat), d ≤ n ∧ i = .int .i64 d ∧ s = .int .i64 (hitsL T (ss.take d)) ∧
        St w wr [It.own B1 H2 a2 ss, It.box w.heap.size #[.int .i64 T.t, .int .i64 T.p, .slice a T.zs.length c] 27, It.read w.heap.size a T.zs]) (fun _ i _ => n - (intOf i).toNat)
    case atStart => exact ⟨0, Nat.zero_le _, rfl, rfl, S2⟩
    case round =>
      obtain ⟨d, hd, rfl, rfl, Sr⟩ := hrel
      clear S2
      by_cases hlt : d < n
      · obtain ⟨x0, x1, x2, x3, x4, x5, xz⟩ := facts3 (Sr.cells 1 rfl)
        have HS := Lib.hid (hits_take (T := T) (ss := ss) (k := d) (by omega))
        have hbd := HB0.out d hd
        have hbd1 := HB0.out (d + 1) (by omega)
        have hky := HK.out d (by omega)
        obtain ⟨b2, o2, y, rfl, q, Y⟩ := (Sr.ints 0 rfl).at (k := d) (by omega)
        rw [Y.out] at HS hky
        have hvo : visOf T y = (visN T y (homeN T y) : Nat) := by simp [visOf, HVV.out, hky]
        obtain ⟨k0, k9⟩ := inB_iff.1 hky
        have HW := Lib.hid fun (W : World) h => l2Way_any T a c y W HVV.out k0 k9 h
        have hwl := way_len T y
        rw [hvo] at HS
        rw [hwl] at HW
        rw [HS.out] at hbd1
        clear hvo
        generalize visN T y (homeN T y) = vn at HS HW hwl hbd1
        generalize hq3 : hitsL T (ss.take (d + 1)) = q3 at HS
        have HQ3 := Lib.hid hq3
        clear hq3
        generalize hitsL T (ss.take d) = q1 at hbd hbd1 HS
        go_wp2_with fail
        refine (HW.out _ (by exact Sr.reads 2 rfl)).mono ?_
        rintro e w4 ⟨g, c4, rfl, _, hb⟩
        have S4 := Sr.below hb
        clear Sr hb x0 x1 x2 x3 x4 x5 xz q
        go_wp2
        go_roundw
        case rel => exact ⟨d + 1, by omega, by go_num, by rw [HQ3.out, HS.out], S4⟩
        case measure => simp [intOf]; omega
      · obtain rfl : d = n := by omega
        go_wp2
        go_ret
        exact ⟨by rw [R.out, HT.out]; rfl, Sr.old⟩

end Go.Proofs.Ytpncpeokdcolpaa

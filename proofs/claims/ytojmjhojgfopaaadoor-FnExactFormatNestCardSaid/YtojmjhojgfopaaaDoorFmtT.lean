/-
  FormatTable of the program.
-/
import Derived.Test.YtojmjhojgfopaaaDoorFmtI
import Derived.Test.YtojmjhojgfopaaaDoorBase
namespace Go.Proofs.YtojmjhojgfopaaaDoor
open Go.RowKit

/-- The words of the first k slots. -/
def wordsS (zs : List Int) (k : Nat) : List ByteArray := (zs.take k).map slotS
theorem wordsS_len {zs : List Int} {k : Nat} (hk : k ≤ zs.length) : (wordsS zs k).length = k := by simp [wordsS, hk]
theorem wordsS_succ {zs : List Int} {k : Nat} {x : Int} (hk : k < zs.length) (hx : nth zs k = x) : wordsS zs (k + 1) = wordsS zs k ++ [slotS x] := by
  have e : zs[k] = x := by simpa [nth, List.getElem?_eq_getElem hk] using hx
  rw [wordsS, List.take_succ_eq_append_getElem hk, e]
  simp [wordsS]

set_option maxHeartbeats 4000000 in
set_option maxRecDepth 100000 in
theorem FormatTable_any (T : Tab) (a : Option Addr) (c : Nat) (w : World) (hx : T.zs.length ≤ 9223372036854775807) (h1 : IntsAt w a T.zs) :
    Calls Tryd.prog 17 #[tabV T a c] w fun e w' => e = .returned (str (fmtOf T)) ∧ Below w.heap.size w w' := by
  have S0 := ((St.start w).read h1).alloc #[.int .i64 T.t, .int .i64 T.p, .slice a T.zs.length c] 36
  cases hv : validB T
  · go_enter Tryd.func17, Tryd.ntmps17
    go_wp2_with fail
    refine (TableValid_any T a c _ hx (by exact S0.reads 1 rfl)).mono ?_
    rw [hv]
    rintro e w1 ⟨rfl, hb⟩
    have S1 := S0.below hb
    go_wp2
    go_ret
    exact ⟨by simp [fmtOf, hv], S1.old⟩
  · obtain ⟨⟨l1, l2⟩, ⟨t1, t2⟩, ⟨p1, p2⟩, _⟩ := valid_facts hv
    have HV := Lib.hid hv
    clear hv
    obtain ⟨tn, ht⟩ : ∃ n : Nat, T.t = n := ⟨T.t.toNat, by omega⟩
    obtain ⟨pn, hp⟩ : ∃ n : Nat, T.p = n := ⟨T.p.toNat, by omega⟩
    have HH : Hid (headL T = ((Lib.decDigits tn ++ [43]) ++ Lib.decDigits pn) ++ [58]) := Lib.hid (by rw [headL, ht, hp]; simp)
    have HT := Lib.hid ht
    have HP := Lib.hid hp
    have htn : tn ≤ 15 := by omega
    have hpn : pn ≤ 15 := by omega
    clear ht hp
    obtain ⟨i0, hi, hz0, hz1, hz2⟩ := info_parts infoS
    have HI := Lib.hid hi; have HZ0 := Lib.hid hz0; have HZ1 := Lib.hid hz1; have HZ2 := Lib.hid hz2
    clear hi hz0 hz1 hz2
    go_enter Tryd.func17, Tryd.ntmps17
    go_wp2_with fail
    refine (TableValid_any T a c _ hx (by exact S0.reads 1 rfl)).mono ?_
    rw [HV.out]
    rintro e w1 ⟨rfl, hb⟩
    have S1 := S0.below hb
    clear S0 hb
    obtain ⟨x0, x1, x2, x3, x4, x5, xz⟩ := facts3 (S1.cells 0 rfl)
    go_wp2_with fail
    clear x0 x1 x2 x3 x4 x5
    refine (ringOf_any T a c _ (by exact S1.reads 1 rfl) HV.out).mono ?_
    rintro e w2 ⟨g, rfl, hg0, hg, hr, hb⟩
    have S2 := S1.below hb
    have z2 := hb.size
    clear S1 hb
    go_wp2_with fail
    go_loopw [3, 12] (fun x i wr => ∃ (k : Nat) (v : Value), k ≤ T.zs.length ∧ i = .int .i64 k ∧ x = v ∧ wr.ownsRow w2.heap.size 9 1 v k ((wordsS T.zs k).map Value.string) ∧ Below w2.heap.size w2 wr) (fun _ i _ => T.zs.length - (intOf i).toNat)
    case atStart => exact ⟨0, _, Nat.zero_le _, rfl, rfl, World.ownsRow_nil _ _ _ _, Below.refl _ _⟩
    case round =>
      obtain ⟨k, v, hk, rfl, rfl, hrow, hbb⟩ := hrel
      have HR := Lib.hid hrow
      clear hrow
      have hzr := hbb.size
      by_cases hlt : k < T.zs.length
      · obtain ⟨r0, r1⟩ := (hr.below hbb hg) k hlt
        obtain ⟨x, hX⟩ : ∃ x, nth T.zs k = x := ⟨_, rfl⟩
        have hsl := valid_slot HV.out hlt
        rw [hX] at r0 r1 hsl
        obtain ⟨hx1, hx2⟩ := hsl
        have X := Lib.hid hX
        clear hX
        go_wp2_with fail
        refine (text_any x _ hx1 hx2).mono ?_
        rintro e w5 ⟨rfl, rfl⟩
        go_wp2_with (at_builtin; refine wpList_append_own _ rfl _ _ 51 rfl w2.heap.size 9 i0 (.string ByteArray.empty) 1 16 Tryd.underlying51 HI.out HZ0.out HZ1.out HZ2.out rfl (by decide) _ _ _ rfl ((HR.out.alloc _).alloc _) ⟨wr.heap.size + 1, 0, none⟩ 1 1 [.string (slotS x)] rfl rfl ?c1 (by simp [Value.oneCell']) (by unfold maxLen; omega) (by omega) (by simp; omega) ?_)
        case c1 =>
          have h := cell_one_new (wr.alloc (.cells #[.int .i64 x, .int .i64 (homeT T x)] 57)) (.string (slotS x)) 9
          rw [World.size_alloc] at h
          exact h
        intro v' w5 hown5 hgrow5 _
        obtain ⟨g', cap', rfl⟩ := ownsRow_more hown5
        have R5 : Hid (w5.ownsRow w2.heap.size 9 1 (.slice (some ⟨g', 0, none⟩) (k + 1) cap') (k + 1) ((wordsS T.zs (k + 1)).map Value.string)) := Lib.hid (by
          rw [wordsS_succ hlt X.out, List.map_append]
          exact hown5)
        have B5 := Lib.hid (((hbb.alloc hbb.size (.cells #[.int .i64 x, .int .i64 (homeT T x)] 57)).alloc (by simp; omega) (.cells #[.string (slotS x)] 9)).trans (grownBy_below hgrow5 (by simp; omega) (fun j e => (HR.out.lt j e).1)))
        clear hown5 hgrow5 r0 r1
        go_wp2
        go_roundw
        case rel => exact ⟨k + 1, _, by omega, by go_num, rfl, R5.out, B5.out⟩
        case measure => simp [intOf]; omega
      · obtain rfl : k = T.zs.length := by omega
        obtain ⟨a5, c5, rfl⟩ := ownsRow_slice HR.out
        have S3 := S2.below hbb
        have hwl := wordsS_len (zs := T.zs) (Nat.le_refl T.zs.length)
        have hjl : (Lib.join ((wordsS T.zs T.zs.length).map (·.data.toList)) [32]).length ≤ 48 := by
          have h := join_len (xs := (wordsS T.zs T.zs.length).map (·.data.toList)) (by
            intro y hy
            obtain ⟨b, hb, rfl⟩ := List.mem_map.1 hy
            obtain ⟨x, hx, rfl⟩ := List.mem_map.1 hb
            obtain ⟨j, hj, rfl⟩ := List.getElem_of_mem (List.mem_of_mem_take hx)
            have := valid_slot HV.out hj
            rw [nth, List.getElem?_eq_getElem hj] at this
            exact slotL_len this.1 this.2)
          rw [List.length_map, hwl] at h
          omega
        have JW : Hid (∀ W, W.ownsRow w2.heap.size 9 1 (.slice a5 T.zs.length c5) T.zs.length ((wordsS T.zs T.zs.length).map Value.string) → Calls Tryd.prog 31 #[.slice a5 T.zs.length c5, .string ⟨#[32]⟩] W fun e w' => e = .returned (.string ⟨(Lib.join ((wordsS T.zs T.zs.length).map (·.data.toList)) [32]).toArray⟩) ∧ Below W.heap.size W w') := Lib.hid fun W h => by
          have := Join_row w2.heap.size a5 T.zs.length c5 (wordsS T.zs T.zs.length) W (by rw [hwl]; exact h) (by omega) (by omega) (by omega)
          rw [hwl] at this
          exact this
        have JB : Hid ((wordsS T.zs T.zs.length).map (·.data.toList) = (T.zs.take T.zs.length).map slotL) := Lib.hid (by simp [wordsS, slotS, Function.comp_def])
        have hjs : (⟨(Lib.join ((wordsS T.zs T.zs.length).map (·.data.toList)) [32]).toArray⟩ : ByteArray).size ≤ 48 := by simpa [ByteArray.size] using hjl
        have JL : Hid ((⟨(Lib.join ((wordsS T.zs T.zs.length).map (·.data.toList)) [32]).toArray⟩ : ByteArray).data.toList = Lib.join ((T.zs.take T.zs.length).map slotL) [32]) := Lib.hid (by rw [← JB.out])
        generalize (⟨(Lib.join ((wordsS T.zs T.zs.length).map (·.data.toList)) [32]).toArray⟩ : ByteArray) = bj at JW hjs JL
        obtain ⟨bx, BX, e1, D1⟩ := Itoa_str tn (by omega)
        obtain ⟨bq, BY, e2, D2⟩ := Itoa_str pn (by omega)
        have f1 := fun W => addB W bx ⟨#[43]⟩ (by rw [one_size]; omega)
        have f2 := fun W => addB W (bx ++ ⟨#[43]⟩) bq (by rw [ByteArray.size_append, one_size]; omega)
        have f3 := fun W => addB W ((bx ++ ⟨#[43]⟩) ++ bq) ⟨#[58]⟩ (by rw [ByteArray.size_append, ByteArray.size_append, one_size, one_size]; omega)
        have f4 := fun W => addB W (((bx ++ ⟨#[43]⟩) ++ bq) ++ ⟨#[58]⟩) bj (by rw [ByteArray.size_append, ByteArray.size_append, ByteArray.size_append, one_size, one_size]; omega)
        obtain ⟨x0, x1, x2, x3, x4, x5, _⟩ := facts3 (S3.cells 0 rfl)
        rw [HT.out] at x0
        rw [HP.out] at x1
        clear hjl hwl
        go_wp2_with fail
        go_region_held3 (fun w' => w'.cell? ⟨w.heap.size, 0, none⟩ = some (.int .i64 tn) ∧ w'.cell? ⟨w.heap.size, 1, none⟩ = some (.int .i64 pn))
          (first
            | exact ⟨x0, x1⟩
            | exact ⟨by rw [← HT.out]; exact (S6.three 0 rfl).1, by rw [← HP.out]; exact (S6.three 0 rfl).2.1⟩)
          (first
            | ((with_reducible refine (D1.out _).mono ?_); rintro e w3 ⟨rfl, rfl⟩)
            | ((with_reducible refine (D2.out _).mono ?_); rintro e w4 ⟨rfl, rfl⟩)
            | ((with_reducible refine (JW.out _ (by exact HR.out.drew)).mono ?_); rintro e w6 ⟨rfl, hb⟩; have S6 := S3.drew.below hb; clear hb))
        clear f1 f2 f3 f4
        go_wp2
        go_ret
        refine ⟨?_, S6.old⟩
        rw [show fmtOf T = preL T T.zs.length by simp [fmtOf, HV.out, fmtL]]
        exact congrArg Ending.returned (str_of (by rw [preL, HH.out]; exact app_bytes (snoc_bytes (app_bytes (snoc_bytes BX.out 43) BY.out) 58) JL.out))

end Go.Proofs.YtojmjhojgfopaaaDoor

/-
  The law FnPut: the walk.
-/
import Derived.Test.YthjnhjpfhhnnlaaGreatDoorCame
import Derived.Test.YthjnhjpfhhnnlaaGreatDoorDraw3P
import Derived.Test.YthjnhjpfhhnnlaaGreatDoorSame
import Derived.Test.YthjnhjpfhhnnlaaGreatDoorFindI
import Derived.Test.YthjnhjpfhhnnlaaGreatDoorLostI
import Derived.Test.YthjnhjpfhhnnlaaGreatDoorPut
import Derived.Test.YthjnhjpfhhnnlaaGreatDoorMath
namespace Go.Proofs.YthjnhjpfhhnnlaaGreatDoor
open Go.RowKit

theorem sameB_self (U : Tab) : sameB U U = true := by simp [sameB]

/-- What the law asks of a table into which a key has been put. -/
structure PutFacts (T : Tab) (key : Int) (U : Tab) (k v v2 : Nat) : Prop where
  lt : k < T.zs.length
  len : U.zs.length = T.zs.length
  n1 : 1 ≤ T.zs.length
  n2 : T.zs.length ≤ 16
  low : nth T.zs k < 0
  rest : ∀ i, i ≠ k → nth U.zs i = nth T.zs i
  find : findOf U key = k
  snd : soundB U = true
  vis : visOf T key = v
  pv : putVis T key = v
  vis2 : visOf U key = v2
  le : v2 ≤ v
theorem put_facts {T : Tab} {key : Int} (h : putOk T key = true) : ∃ k v v2 : Nat, PutFacts T key (putT T key) k v v2 := by
  obtain ⟨hp, _⟩ := putOk_parts h
  have P := put_says h
  have e : placeI T key = ((placeI T key).toNat : Nat) := by omega
  have hU : putT T key = putAt T (placeI T key).toNat key := putT_yes h e
  rw [hU]
  generalize (placeI T key).toNat = k at P
  obtain ⟨⟨l1, l2⟩, _⟩ := valid_facts P.val
  have ak : (validB T && inB key 0 99) = true := by rw [P.val]; simpa using inB_true P.key0
  have ak2 : (validB (putAt T k key) && inB key 0 99) = true := by rw [P.val2]; simpa using inB_true P.key0
  have ev : visOf T key = (visN T key (homeN T key) : Int) := by simp [visOf, ak]
  refine ⟨k, visN T key (homeN T key), visN (putAt T k key) key (homeN T key), P.lt, putAt_len T k key, l1, l2, P.low, fun i hi => ?_, ?_, P.sound2, ev, ?_, ?_, P.vis2⟩
  · show nth (T.zs.set k key) i = _
    rw [nth_set P.lt, if_neg hi]
  · rw [findOf, if_pos ak2]; exact P.find2
  · rw [(putVis_yes h).1]; exact ev
  · rw [visOf, if_pos ak2, putAt_home]

theorem put_cell {w : World} {base b o : Nat} {zs : List Int} (h : OwnInts w base (some ⟨b, o, none⟩) zs) {k : Nat} {x : Int} (hk : k < zs.length) (hx : nth zs k = x) : w.cell? ⟨b, o + k, none⟩ = some (.int .i64 x) := by
  subst hx
  exact (own_at h hk).1

set_option maxHeartbeats 4000000 in
set_option maxRecDepth 100000 in
theorem walkFnPut (w : World) (a : Option Addr) (len cap : Nat) (zs : List Int) (h : IsRow .u8 w a len cap zs) (hL : Laid w) :
    Calls Tryz.prog 3 #[.slice a len cap] w fun e w' => e = .returned (.bool true) ∧ Below w.heap.size w w' := by
  obtain ⟨ys, rfl, hC, S0⟩ := came_of h
  clear h
  by_cases hs : ys.length ≤ 1048576
  · have t1 : decide (1048576 < (ys.length : Int)) = false := by simp; omega
    go_enter Tryz.func3, Tryz.ntmps3
    go_wp2_with fail
    refine (DrawPutKey_any (by exact S0) hC).mono ?_
    rintro e w1 ⟨T, a1, c1, lo, hi, key, rfl, hT, ⟨k1, k2⟩, hlo, S1⟩
    obtain ⟨n1, n2⟩ := hT.len
    have hul := putT_len T key
    have HU := Lib.hid fun (W : World) (h : IntsAt W a1 T.zs) => PutKey_any T a1 c1 key W (by omega) h
    have HW := Lib.hid fun (W : World) (h : IntsAt W a1 T.zs) => specPutKey_any T a1 c1 key W (by omega) h
    have hpf := fun (h : putOk T key = true) => put_facts h
    have hpn := fun (h : putOk T key = false) => putT_no h
    have hvn := fun (h : putOk T key = false) => putVis_no h
    generalize putT T key = U at hul HU HW hpf hpn
    have S2 := S1.alloc #[.int .i64 T.t, .int .i64 T.p, .slice a1 T.zs.length c1] 25
    go_wp2_with fail
    refine (HU.out _ (by exact S2.ints 1 rfl)).mono ?_
    rintro e w2 ⟨a2, c2, rfl, ho, hb⟩
    have S3 : ∃ l2 h2, St w w2 [It.own l2 h2 a2 U.zs, It.box w1.heap.size #[.int .i64 T.t, .int .i64 T.p, .slice a1 T.zs.length c1] 25, It.own lo hi a1 T.zs] := ⟨_, _, (S2.below hb).own ho⟩
    obtain ⟨l2, h2, S3⟩ := S3
    clear S1 S2 ho hb
    obtain ⟨x0, x1, x2, x3, x4, x5, xz⟩ := facts3 (S3.cells 1 rfl)
    have S4 := S3.alloc #[.int .i64 U.t, .int .i64 U.p, .slice a2 U.zs.length c2] 25
    clear S3
    go_wp2_with fail
    clear x0 x1 x2 x3 x4 x5 xz
    refine (HW.out _ (by exact S4.ints 3 rfl)).mono ?_
    rintro e w3 ⟨a3, c3, rfl, ho, hb⟩
    have S5 : ∃ l3 h3, St w w3 [It.own l3 h3 a3 U.zs, It.box w2.heap.size #[.int .i64 U.t, .int .i64 U.p, .slice a2 U.zs.length c2] 25, It.own l2 h2 a2 U.zs, It.box w1.heap.size #[.int .i64 T.t, .int .i64 T.p, .slice a1 T.zs.length c1] 25, It.own lo hi a1 T.zs] := ⟨_, _, (S4.below hb).own ho⟩
    obtain ⟨l3, h3, S5⟩ := S5
    clear S4 ho hb
    have S6 := S5.alloc #[.int .i64 U.t, .int .i64 U.p, .slice a3 U.zs.length c3] 25
    clear S5
    obtain ⟨x0, x1, x2, x3, x4, x5, xz⟩ := facts3 (S6.cells 2 rfl)
    obtain ⟨y0, y1, y2, y3, y4, y5, yz⟩ := facts3 (S6.cells 4 rfl)
    obtain ⟨z0, z1, z2, z3, z4, z5, zz⟩ := facts3 (S6.cells 0 rfl)
    cases ok : putOk T key
    · have HZ : Hid (U.zs.length = 0) := Lib.hid (by rw [hpn ok]; rfl)
      have hv := hvn ok
      clear hpf hpn hvn
      have hpi := PutVisits_any T a1 c1 key
      have hps := specPutVisits_any T a1 c1 key
      rw [hv] at hpi hps
      have HPI := Lib.hid hpi
      have HPS := Lib.hid hps
      have HS := Lib.hid (sameB_self U)
      clear hpi hps hv
      go_wp2_with fail
      go_region_held3 (fun w' => (w'.cell? ⟨w2.heap.size, 0, none⟩ = some (.int .i64 U.t) ∧ w'.cell? ⟨w2.heap.size, 1, none⟩ = some (.int .i64 U.p) ∧ w'.cell? ⟨w2.heap.size, 2, none⟩ = some (.slice a2 U.zs.length c2) ∧
          w'.cell? ⟨w1.heap.size, 0, none⟩ = some (.int .i64 T.t) ∧ w'.cell? ⟨w1.heap.size, 1, none⟩ = some (.int .i64 T.p) ∧ w'.cell? ⟨w1.heap.size, 2, none⟩ = some (.slice a1 T.zs.length c1)) ∧
          w'.cell? ⟨w3.heap.size, 0, none⟩ = some (.int .i64 U.t) ∧ w'.cell? ⟨w3.heap.size, 1, none⟩ = some (.int .i64 U.p) ∧ w'.cell? ⟨w3.heap.size, 2, none⟩ = some (.slice a3 U.zs.length c3))
        (first
          | exact ⟨⟨x0, x1, x2, y0, y1, y2⟩, z0, z1, z2⟩
          | exact ⟨S7.six 2 4 rfl rfl, S7.three 0 rfl⟩
          | exact ⟨S8.six 2 4 rfl rfl, S8.three 0 rfl⟩
          | exact ⟨S9.six 2 4 rfl rfl, S9.three 0 rfl⟩)
        (first
          | (go_at_call 11; refine (SameTable_any U U a2 a3 c2 c3 _ (by omega) (by omega) (by exact S6.drew.ints 3 rfl) (by exact S6.drew.ints 1 rfl)).mono ?_; rintro e w5 ⟨rfl, hb⟩; have S7 := S6.drew.below hb; clear hb; rw [HS.out])
          | (go_at_call 12; refine (HPI.out _ (by omega) (by exact S7.ints 5 rfl)).mono ?_; rintro e w6 ⟨rfl, hb⟩; have S8 := S7.below hb; clear hb)
          | (go_at_call 13; refine (HPS.out _ (by omega) (by exact S8.ints 5 rfl)).mono ?_; rintro e w7 ⟨rfl, hb⟩; have S9 := S8.below hb; clear hb))
      clear x0 x1 x2 x3 x4 x5 xz y0 y1 y2 y3 y4 y5 yz z0 z1 z2 z3 z4 z5 zz S6 S7 S8
      obtain ⟨x0, x1, x2, x3, x4, x5, xz⟩ := facts3 (S9.cells 2 rfl)
      obtain ⟨y0, y1, y2, y3, y4, y5, yz⟩ := facts3 (S9.cells 4 rfl)
      obtain ⟨z0, z1, z2, z3, z4, z5, zz⟩ := facts3 (S9.cells 0 rfl)
      have lz : ((U.zs.length : Int) == 0) = true := by rw [HZ.out]; rfl
      go_wp2_with fail
      go_region_held3 (fun w' => (w'.cell? ⟨w2.heap.size, 0, none⟩ = some (.int .i64 U.t) ∧ w'.cell? ⟨w2.heap.size, 1, none⟩ = some (.int .i64 U.p) ∧ w'.cell? ⟨w2.heap.size, 2, none⟩ = some (.slice a2 U.zs.length c2) ∧
          w'.cell? ⟨w1.heap.size, 0, none⟩ = some (.int .i64 T.t) ∧ w'.cell? ⟨w1.heap.size, 1, none⟩ = some (.int .i64 T.p) ∧ w'.cell? ⟨w1.heap.size, 2, none⟩ = some (.slice a1 T.zs.length c1)) ∧
          w'.cell? ⟨w3.heap.size, 0, none⟩ = some (.int .i64 U.t) ∧ w'.cell? ⟨w3.heap.size, 1, none⟩ = some (.int .i64 U.p) ∧ w'.cell? ⟨w3.heap.size, 2, none⟩ = some (.slice a3 U.zs.length c3))
        (first
          | exact ⟨⟨x0, x1, x2, y0, y1, y2⟩, z0, z1, z2⟩
          | exact ⟨S10.six 2 4 rfl rfl, S10.three 0 rfl⟩
          | exact ⟨S11.six 2 4 rfl rfl, S11.three 0 rfl⟩
          | exact ⟨S12.six 2 4 rfl rfl, S12.three 0 rfl⟩)
        (first
          | (go_at_call 11; refine (SameTable_any U U a2 a3 c2 c3 _ (by omega) (by omega) (by exact S9.drew.ints 3 rfl) (by exact S9.drew.ints 1 rfl)).mono ?_; rintro e w8 ⟨rfl, hb⟩; have S10 := S9.drew.below hb; clear hb; rw [HS.out])
          | (go_at_call 12; refine (HPI.out _ (by omega) (by exact S10.ints 5 rfl)).mono ?_; rintro e w9 ⟨rfl, hb⟩; have S11 := S10.below hb; clear hb)
          | (go_at_call 13; refine (HPS.out _ (by omega) (by exact S11.ints 5 rfl)).mono ?_; rintro e w10 ⟨rfl, hb⟩; have S12 := S11.below hb; clear hb))
      go_wp2
      go_ret
      exact ⟨rfl, S12.old⟩
    · obtain ⟨k, v, v2, F⟩ := hpf ok
      clear hpf hpn hvn ok
      have hpi := PutVisits_any T a1 c1 key
      have hps := specPutVisits_any T a1 c1 key
      have hvi := VisitsFor_any T a1 c1 key
      have hvu := VisitsFor_any U a2 c2 key
      have hfu := FindKey_any U a2 c2 key
      have hsu := IsSound_any U a2 c2
      have d0 : decide ((0 : Int) ≤ (k : Int)) = true := decide_eq_true (by omega)
      rw [F.pv] at hpi hps
      rw [F.vis] at hvi
      rw [F.vis2] at hvu
      rw [F.find, d0] at hfu
      rw [F.snd] at hsu
      have HPI := Lib.hid hpi
      have HPS := Lib.hid hps
      have HVI := Lib.hid hvi
      have HVU := Lib.hid hvu
      have HFU := Lib.hid hfu
      have HSU := Lib.hid hsu
      have HS := Lib.hid (sameB_self U)
      have lt := F.lt
      have UL := Lib.hid F.len
      have low := F.low
      have le := F.le
      have HR := Lib.hid F.rest
      clear hpi hps hvi hvu hfu hsu F d0
      go_wp2_with fail
      go_region_held3 (fun w' => (w'.cell? ⟨w2.heap.size, 0, none⟩ = some (.int .i64 U.t) ∧ w'.cell? ⟨w2.heap.size, 1, none⟩ = some (.int .i64 U.p) ∧ w'.cell? ⟨w2.heap.size, 2, none⟩ = some (.slice a2 U.zs.length c2) ∧
          w'.cell? ⟨w1.heap.size, 0, none⟩ = some (.int .i64 T.t) ∧ w'.cell? ⟨w1.heap.size, 1, none⟩ = some (.int .i64 T.p) ∧ w'.cell? ⟨w1.heap.size, 2, none⟩ = some (.slice a1 T.zs.length c1)) ∧
          w'.cell? ⟨w3.heap.size, 0, none⟩ = some (.int .i64 U.t) ∧ w'.cell? ⟨w3.heap.size, 1, none⟩ = some (.int .i64 U.p) ∧ w'.cell? ⟨w3.heap.size, 2, none⟩ = some (.slice a3 U.zs.length c3))
        (first
          | exact ⟨⟨x0, x1, x2, y0, y1, y2⟩, z0, z1, z2⟩
          | exact ⟨S7.six 2 4 rfl rfl, S7.three 0 rfl⟩
          | exact ⟨S8.six 2 4 rfl rfl, S8.three 0 rfl⟩
          | exact ⟨S9.six 2 4 rfl rfl, S9.three 0 rfl⟩)
        (first
          | (go_at_call 11; refine (SameTable_any U U a2 a3 c2 c3 _ (by omega) (by omega) (by exact S6.drew.ints 3 rfl) (by exact S6.drew.ints 1 rfl)).mono ?_; rintro e w5 ⟨rfl, hb⟩; have S7 := S6.drew.below hb; clear hb; rw [HS.out])
          | (go_at_call 12; refine (HPI.out _ (by omega) (by exact S7.ints 5 rfl)).mono ?_; rintro e w6 ⟨rfl, hb⟩; have S8 := S7.below hb; clear hb)
          | (go_at_call 13; refine (HPS.out _ (by omega) (by exact S8.ints 5 rfl)).mono ?_; rintro e w7 ⟨rfl, hb⟩; have S9 := S8.below hb; clear hb))
      clear x0 x1 x2 x3 x4 x5 xz y0 y1 y2 y3 y4 y5 yz z0 z1 z2 z3 z4 z5 zz S6 S7 S8
      have S10 := S9.turn (l' := [It.box w2.heap.size #[.int .i64 U.t, .int .i64 U.p, .slice a2 U.zs.length c2] 25, It.own l2 h2 a2 U.zs, It.box w1.heap.size #[.int .i64 T.t, .int .i64 T.p, .slice a1 T.zs.length c1] 25, It.own lo hi a1 T.zs]) fun i hi => by
        simp only [List.mem_cons] at hi ⊢
        rcases hi with h | h | h | h | h
        · exact .inr (.inr (.inl h))
        · exact .inr (.inr (.inr (.inl h)))
        · exact .inr (.inr (.inr (.inr (.inl h))))
        · exact .inr (.inr (.inr (.inr (.inr (.inl h)))))
        · cases h
      clear S9
      obtain ⟨x0, x1, x2, x3, x4, x5, xz⟩ := facts3 (S10.cells 0 rfl)
      go_wp2_with fail
      clear x0 x1 x2 x3 x4 x5 xz
      refine (HFU.out _ (by omega) (by exact S10.ints 1 rfl) (hL.below S10.old hL.pos)).mono ?_
      rintro e w8 ⟨rfl, hb⟩
      have S11 := S10.below hb
      clear S10 hb
      obtain ⟨y0, y1, y2, y3, y4, y5, yz⟩ := facts3 (S11.cells 2 rfl)
      go_wp2_with fail
      clear y0 y1 y2 y3 y4 y5 yz
      obtain ⟨b, o, z, rfl, _, Z⟩ := (S11.ints 3 rfl).at lt
      obtain ⟨b2, o2, z2, rfl, _, _⟩ := (S11.ints 1 rfl).at (show k < U.zs.length by have := UL.out; omega)
      rw [Z.out] at low
      go_loopw [11, 86] (fun _ i wr => ∃ m : Nat, m ≤ T.zs.length ∧ i = .int .i64 m ∧ St w wr [It.box w2.heap.size #[.int .i64 U.t, .int .i64 U.p, .slice (some ⟨b2, o2, none⟩) U.zs.length c2] 25, It.own l2 h2 (some ⟨b2, o2, none⟩) U.zs, It.box w1.heap.size #[.int .i64 T.t, .int .i64 T.p, .slice (some ⟨b, o, none⟩) T.zs.length c1] 25, It.own lo hi (some ⟨b, o, none⟩) T.zs]) (fun _ i _ => T.zs.length - (intOf i).toNat)
      case atStart => exact ⟨0, Nat.zero_le _, rfl, S11⟩
      case round =>
        obtain ⟨m, hm, rfl, Sr⟩ := hrel
        clear S11
        obtain ⟨x0, x1, x2, x3, x4, x5, xz⟩ := facts3 (Sr.cells 0 rfl)
        obtain ⟨y0, y1, y2, y3, y4, y5, yz⟩ := facts3 (Sr.cells 2 rfl)
        by_cases hlt : m < T.zs.length
        · have hlu : m < U.zs.length := by have := UL.out; omega
          have j0 : (0 : Int) ≤ (m : Int) := by omega
          have j1 : (m : Int) < (T.zs.length : Int) := by omega
          have j2 : (m : Int) < (U.zs.length : Int) := by omega
          by_cases hmk : m = k
          · subst hmk
            go_wp2
            go_quiet (fail)
            go_wp2
            go_roundw
            case rel => exact ⟨m + 1, by omega, by go_num, Sr.drewN _⟩
            case measure => simp [intOf]; omega
          · obtain ⟨b', o', x, e, q, X⟩ := (Sr.ints 3 rfl).at hlt
            cases e
            obtain ⟨b'', o'', y, e, q2, Y⟩ := (Sr.ints 1 rfl).at hlu
            cases e
            have hxy : y = x := by rw [← X.out, ← Y.out]; exact HR.out m hmk
            subst hxy
            have dm : ((m : Int) != (k : Int)) = true := by simp; omega
            have dm2 : (m != k) = true := by simp; exact hmk
            go_wp2
            go_quiet (fail)
            go_wp2
            go_roundw
            case rel => exact ⟨m + 1, by omega, by go_num, Sr.drewN _⟩
            case measure => simp [intOf]; omega
        · obtain rfl : m = T.zs.length := by omega
          obtain ⟨b', o', x, e, q, X⟩ := (Sr.ints 3 rfl).at lt
          cases e
          obtain rfl : x = z := X.out.symm.trans Z.out
          have k0 : (0 : Int) ≤ (k : Int) := by omega
          have k1 : (k : Int) < (T.zs.length : Int) := by omega
          have dl : decide (x < 0) = true := decide_eq_true low
          have dv : decide ((v2 : Int) ≤ (v : Int)) = true := decide_eq_true (by omega)
          go_wp2_with fail
          go_region_held3 (fun w' => (w'.cell? ⟨w2.heap.size, 0, none⟩ = some (.int .i64 U.t) ∧ w'.cell? ⟨w2.heap.size, 1, none⟩ = some (.int .i64 U.p) ∧ w'.cell? ⟨w2.heap.size, 2, none⟩ = some (.slice (some ⟨b2, o2, none⟩) U.zs.length c2) ∧
              w'.cell? ⟨w1.heap.size, 0, none⟩ = some (.int .i64 T.t) ∧ w'.cell? ⟨w1.heap.size, 1, none⟩ = some (.int .i64 T.p) ∧ w'.cell? ⟨w1.heap.size, 2, none⟩ = some (.slice (some ⟨b, o, none⟩) T.zs.length c1)) ∧
              w'.cell? ⟨b, o + k, none⟩ = some (.int .i64 x))
            (first
              | exact ⟨⟨x0, x1, x2, y0, y1, y2⟩, q⟩
              | exact ⟨S12.six 0 2 rfl rfl, put_cell (S12.owns 3 rfl) lt X.out⟩
              | exact ⟨S13.six 0 2 rfl rfl, put_cell (S13.owns 3 rfl) lt X.out⟩
              | exact ⟨S14.six 0 2 rfl rfl, put_cell (S14.owns 3 rfl) lt X.out⟩
              | exact ⟨S15.six 0 2 rfl rfl, put_cell (S15.owns 3 rfl) lt X.out⟩
              | exact ⟨S16.six 0 2 rfl rfl, put_cell (S16.owns 3 rfl) lt X.out⟩)
            (first
              | (go_at_call 15; refine (HSU.out _ (by omega) (by exact Sr.drew.ints 1 rfl)).mono ?_; rintro e w9 ⟨rfl, hb⟩; have S12 := Sr.drew.below hb; clear hb)
              | (go_at_call 12; refine (HPI.out _ (by omega) (by exact S12.ints 3 rfl)).mono ?_; rintro e w10 ⟨rfl, hb⟩; have S13 := S12.below hb; clear hb)
              | ((with_reducible refine (HVU.out _ (by omega) (by exact S14.ints 1 rfl)).mono ?_); rintro e w12 ⟨rfl, hb⟩; have S15 := S14.below hb; clear hb)
              | ((with_reducible refine (HVI.out _ (by omega) (by exact S15.ints 3 rfl)).mono ?_); rintro e w13 ⟨rfl, hb⟩; have S16 := S15.below hb; clear hb)
              | ((with_reducible refine (HVI.out _ (by omega) (by exact S13.ints 3 rfl)).mono ?_); rintro e w11 ⟨rfl, hb⟩; have S14 := S13.below hb; clear hb))
          go_wp2
          go_ret
          exact ⟨rfl, S16.old⟩
  · have t1 : decide (1048576 < (ys.length : Int)) = true := by simp; omega
    go_enter Tryz.func3, Tryz.ntmps3
    go_wp2_with fail
    go_ret
    exact ⟨rfl, S0.old⟩

end Go.Proofs.YthjnhjpfhhnnlaaGreatDoor

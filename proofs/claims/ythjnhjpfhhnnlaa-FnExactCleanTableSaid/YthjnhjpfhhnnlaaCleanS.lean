/-
  CleanTable of the model.
-/
import Derived.Test.YthjnhjpfhhnnlaaNew
import Derived.Test.YthjnhjpfhhnnlaaDrawS
import Derived.Test.YthjnhjpfhhnnlaaCopy
import Derived.Test.YthjnhjpfhhnnlaaPlace
import Derived.Test.YthjnhjpfhhnnlaaLost
import Derived.Test.YthjnhjpfhhnnlaaMath
namespace Go.Proofs.Ythjnhjpfhhnnlaa
open Go.RowKit

theorem cleanRes_no {T : Tab} {w w' : World} (h : soundB T = false) (hb : Below w.heap.size w w') : TabRes (cleanT T) (soundB T) w (.returned (.tuple #[tbl 0 0 none 0 0, .bool false])) w' := by
  rw [h, cleanT_no h]
  exact ⟨none, 0, rfl, OwnInts.nil _ _, hb⟩
theorem cleanRes_yes {T : Tab} {w w' : World} {a : Option Addr} {c : Nat} (hs : soundB T = true) (ho : OwnInts w' w.heap.size a (putsT T (keysLL T.zs)).zs) (hb : Below w.heap.size w w') :
    TabRes (cleanT T) true w (.returned (.tuple #[tbl T.t T.p a T.zs.length c, .bool true])) w' := by
  have CI := clean_to (sound_all.1 hs).1 T.zs.length (Nat.le_refl _)
  rw [List.take_length] at CI
  rw [cleanT_yes hs]
  refine ⟨_, c, ?_, ho, hb⟩
  rw [CI.t, CI.p, CI.len]

set_option maxHeartbeats 4000000 in
theorem specCleanTable_any (T : Tab) (a : Option Addr) (c : Nat) (w : World) (hx : T.zs.length ≤ 9223372036854775807) (h1 : IntsAt w a T.zs) :
    Calls Try.prog 16 #[tabV T a c] w (TabRes (cleanT T) (soundB T) w) := by
  have S0 := (((St.start w).read h1).alloc #[.int .i64 T.t, .int .i64 T.p, .slice a T.zs.length c] 26).alloc #[.int .i64 0, .int .i64 0, .slice none 0 0] 26
  rw [World.size_alloc] at S0
  cases hs : soundB T
  · have E := Lib.hid hs
    go_enter Try.func16, Try.ntmps16
    go_wp2_with fail
    refine (specIsSound_any T a c _ hx (by exact S0.reads 2 rfl)).mono ?_
    rw [hs]
    rintro e w2 ⟨rfl, hb⟩
    have S2 := S0.below hb
    clear S0 hb
    obtain ⟨x0, x1, x2, x3, x4, x5, xz⟩ := facts3 (S2.cells 0 rfl)
    go_wp2
    refine bodyPost_ret (v := .tuple #[tbl 0 0 none 0 0, .bool false]) (by simp [results, Try.results16, go_sem, x0, x1, x2, x3, x4, x5]) rfl ?_
    have := cleanRes_no E.out (set3 S2.old (Nat.le_succ _) (.int .i64 0) (.int .i64 0) (.slice none 0 0))
    rw [E.out] at this
    exact this
  · have hv := (sound_all.1 hs).1
    have hn := (valid_facts hv).1
    have HV := Lib.hid hv
    have HS := Lib.hid hs
    go_enter Try.func16, Try.ntmps16
    go_wp2_with fail
    refine (specIsSound_any T a c _ hx (by exact S0.reads 2 rfl)).mono ?_
    rw [hs]
    rintro e w2 ⟨rfl, hb⟩
    have S2 := S0.below hb
    clear S0 hb hv hs
    have z2 : w.heap.size + 1 < w2.heap.size := S2.sz 0 rfl
    obtain ⟨x0, x1, x2, x3, x4, x5, xz⟩ := facts3 (S2.cells 1 rfl)
    go_wp2_with fail
    refine (l1Free_any T.zs.length T.t T.p _ hn.2).mono ?_
    rintro e w4 ⟨a4, c4, rfl, ho, hb, hrow⟩
    obtain ⟨g, c', e⟩ := ownsRow_pos hrow (by omega)
    cases e
    have z4 := hb.size
    have S4 := ((S2.below hb).own ho).alloc #[.int .i64 T.t, .int .i64 T.p, .slice (some ⟨g, 0, none⟩) T.zs.length c4] 26
    have S5 := S4.turn (l' := [It.box w4.heap.size #[.int .i64 T.t, .int .i64 T.p, .slice (some ⟨g, 0, none⟩) T.zs.length c4] 26, It.own w2.heap.size w4.heap.size (some ⟨g, 0, none⟩) (List.replicate T.zs.length (-1)), It.box (w.heap.size + 1) #[.int .i64 0, .int .i64 0, .slice none 0 0] 26, It.read w.heap.size a T.zs]) fun i hi => by
      simp only [List.mem_cons, List.not_mem_nil, or_false] at hi ⊢
      rcases hi with h | h | h | h
      · exact .inl h
      · exact .inr (.inl h)
      · exact .inr (.inr (.inl h))
      · exact .inr (.inr (.inr (.inr h)))
    obtain ⟨y0, y1, y2, y3, y4, y5, yz⟩ := facts3 (S4.cells 3 rfl)
    clear S2 S4 hb ho hrow x0 x1 x2 x3 x4 x5 xz
    go_wp2_with fail
    clear y0 y1 y2 y3 y4 y5 yz
    go_loopw [6, 7, 8, 24] (fun _ _ _ i wr => ∃ k : Nat, k ≤ T.zs.length ∧ i = .int .i64 k ∧ St w wr [It.box w4.heap.size #[.int .i64 T.t, .int .i64 T.p, .slice (some ⟨g, 0, none⟩) T.zs.length c4] 26, It.own w2.heap.size w4.heap.size (some ⟨g, 0, none⟩) (putsT T (keysLL (T.zs.take k))).zs, It.box (w.heap.size + 1) #[.int .i64 0, .int .i64 0, .slice none 0 0] 26, It.read w.heap.size a T.zs]) (fun _ _ _ i _ => T.zs.length - (intOf i).toNat)
    case atStart => exact ⟨0, Nat.zero_le _, rfl, S5⟩
    case round =>
      obtain ⟨k, hkk, rfl, Sr⟩ := hrel
      clear S5
      obtain ⟨x0, x1, x2, x3, x4, x5, xz⟩ := facts3 (Sr.cells 0 rfl)
      by_cases hlt : k < T.zs.length
      · have k0 : (0 : Int) ≤ (k : Int) := by omega
        have k1 : (k : Int) < (T.zs.length : Int) := by omega
        obtain ⟨b, o, x, rfl, q, X⟩ := (Sr.reads 3 rfl).at hlt
        by_cases h0 : 0 ≤ x
        · have d0 : decide (0 ≤ x) = true := decide_eq_true h0
          obtain ⟨hok, hput⟩ := clean_put HV.out hlt X.out h0
          have CI := clean_to HV.out k hkk
          generalize putsT T (keysLL (T.zs.take k)) = C at Sr hok hput CI
          generalize hD2 : putsT T (keysLL (T.zs.take (k + 1))) = C2 at hput
          have D2 := Lib.hid hD2
          have P := put_says hok
          have hpl := (putOk_parts hok).1
          have e : placeI C x = ((placeI C x).toNat : Nat) := by omega
          have eU : putT C x = putAt C (placeI C x).toNat x := by simp [putT, hok]
          generalize (placeI C x).toNat = m at P e eU
          have hml : m < T.zs.length := by have := P.lt; rw [CI.len] at this; exact this
          have HC2 : Hid (C2.zs = C.zs.set m x) := Lib.hid (by rw [hput, eU]; rfl)
          have HP : ∀ W, IntsAt W (some ⟨g, 0, none⟩) C.zs → Calls Try.prog 30 #[.agg #[.int .i64 T.t, .int .i64 T.p, .slice (some ⟨g, 0, none⟩) T.zs.length c4], .int .i64 x] W fun e w' => e = .returned (.tuple #[.int .i64 m, .bool (decide (0 ≤ (m : Int)))]) ∧ Below W.heap.size W w' := fun W h => by
            have := specPlaceFor_any C (some ⟨g, 0, none⟩) c4 x W (by rw [CI.len]; exact hx) h
            rw [e] at this
            simpa only [tabV, CI.t, CI.p, CI.len] using this
          have HPL := Lib.hid HP
          have HL := Lib.hid CI.len
          clear hD2 HP P e eU hok hput CI hpl
          go_wp2_with fail
          clear x0 x1 x2 x3 x4 x5 xz
          refine (HPL.out _ (by exact Sr.ints 1 rfl)).mono ?_
          rintro e w6 ⟨rfl, hb⟩
          have S6 := Sr.below hb
          clear Sr hb q
          obtain ⟨x0, x1, x2, x3, x4, x5, xz⟩ := facts3 (S6.cells 0 rfl)
          obtain ⟨b', o', e, hc, hf⟩ := (S6.owns 1 rfl).2 (by have := HL.out; omega)
          cases e
          have q := hc m (by have := HL.out; omega)
          have f := hf m (by have := HL.out; omega)
          rw [Nat.zero_add] at q f
          have m0 : (0 : Int) ≤ (m : Int) := by omega
          have m1 : (m : Int) < (T.zs.length : Int) := by omega
          have S7 := S6.storeOwn 1 m (by have := HL.out; omega) rfl ⟨.inr (Nat.le_refl w4.heap.size), .inl (by show w.heap.size + 1 + 1 ≤ w2.heap.size; omega), .inl (by show w.heap.size ≤ w2.heap.size; omega), trivial⟩ (by omega) x
          rw [← HC2.out] at S7
          clear hc hf S6
          go_wp2
          go_roundw
          case rel => exact ⟨k + 1, by omega, by go_num, by rw [D2.out]; exact S7⟩
          case measure => simp [intOf]; omega
        · have d0 : decide (0 ≤ x) = false := decide_eq_false h0
          have HK := Lib.hid (clean_skip hlt (by rw [X.out]; omega))
          go_wp2
          go_roundw
          case rel => exact ⟨k + 1, by omega, by go_num, by rw [HK.out]; exact Sr⟩
          case measure => simp [intOf]; omega
      · obtain rfl : k = T.zs.length := by omega
        rw [List.take_length] at Sr
        obtain ⟨y0, y1, y2, y3, y4, y5, yz⟩ := facts3 (Sr.cells 2 rfl)
        have S6 := (Sr.turn (l' := [It.own w2.heap.size w4.heap.size (some ⟨g, 0, none⟩) (putsT T (keysLL T.zs)).zs]) fun i hi => by simp at hi; subst hi; simp).set3Far (b := w.heap.size + 1) ⟨.inr (by show w.heap.size + 1 + 1 ≤ w2.heap.size; omega), trivial⟩ (by omega) (.int .i64 T.t) (.int .i64 T.p) (.slice (some ⟨g, 0, none⟩) T.zs.length c4)
        go_wp2
        refine bodyPost_ret (v := .tuple #[tbl T.t T.p (some ⟨g, 0, none⟩) T.zs.length c4, .bool true]) (by simp [results, Try.results16, go_sem, y0, y1, y2, y3, y4, y5]) rfl ?_
        exact cleanRes_yes HS.out ((S6.owns 0 rfl).mono (by omega)) S6.old

end Go.Proofs.Ythjnhjpfhhnnlaa

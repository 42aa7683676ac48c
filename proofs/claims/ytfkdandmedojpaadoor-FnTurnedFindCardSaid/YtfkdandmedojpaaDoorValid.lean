/-
  TableValid, of the program and of the model.
-/
import Derived.Test.YtfkdandmedojpaaDoorMarks
import Derived.Test.YtfkdandmedojpaaDoorState
namespace Go.Proofs.YtfkdandmedojpaaDoor
open Go.RowKit

set_option maxHeartbeats 400000 in
theorem l1Find_any (a : Option Addr) (c : Nat) (zs : List Int) (n : Int) (w : World) (hx : zs.length ≤ 9223372036854775807) (h1 : IntsAt w a zs) :
    Calls Tryd.prog 40 #[.slice a zs.length c, .int .i64 n] w fun e w' => e = .returned (.int .i64 (fnd zs n)) ∧ w = w' := by
  go_enter Tryd.func40, Tryd.ntmps40
  go_wp2
  go_loop [9] (fun i => ∃ k : Nat, k ≤ zs.length ∧ i = .int .i64 k ∧ (∀ j, j < k → nth zs j ≠ n)) (fun i => zs.length - (intOf i).toNat)
  case atStart => exact ⟨0, Nat.zero_le _, rfl, fun _ h => (by omega)⟩
  case round =>
    obtain ⟨k, hk, rfl, hn⟩ := hrel
    have HN := Lib.hid hn
    clear hn
    by_cases hlt : k < zs.length
    · obtain ⟨b, o, x, rfl, q, X⟩ := h1.at hlt
      cases he : (x == n)
      · have hne : nth zs k ≠ n := by rw [X.out]; simpa using he
        have HNE := Lib.hid hne
        clear hne
        go_wp2
        go_round
        case rel => exact ⟨k + 1, by omega, by go_num, ne_step HN.out HNE.out⟩
        case measure => simp [intOf]; omega
      · have heq : nth zs k = n := by rw [X.out]; simpa using he
        have F := Lib.hid (fnd_at hlt HN.out heq)
        clear heq
        go_wp2
        go_ret
        exact ⟨ret_int F.out.symm, rfl⟩
    · go_wp2
      go_ret
      have e : k = zs.length := by omega
      exact ⟨ret_int (fnd_none (fun j hj => HN.out j (by omega))).symm, rfl⟩

/-- A table as a value. -/
abbrev tabV (T : Tab) (a : Option Addr) (c : Nat) : Value := .agg #[.int .i64 T.t, .int .i64 T.p, .slice a T.zs.length c]

theorem bad_valid {T : Tab} {k : Nat} {x : Int} (hk : k < T.zs.length) (hx : nth T.zs k = x) (h : ¬ (inB x (-2) 99 = true ∧ (0 ≤ x → ∀ j, j < k → nth T.zs j ≠ x))) : false = validB T := by
  subst hx
  have := not_good hk h
  symm
  rw [Bool.eq_false_iff]
  exact fun hv => this (validB_iff.1 hv).2
theorem head_valid {T : Tab} (h : headB T.zs.length T.t T.p = false) : false = validB T := by simp [validB, h]
theorem good_valid {T : Tab} (h : headB T.zs.length T.t T.p = true) (hg : Good T.zs T.zs.length) : true = validB T := (validB_iff.2 ⟨h, hg⟩).symm

set_option maxHeartbeats 1000000 in
theorem specTableValid_any (T : Tab) (a : Option Addr) (c : Nat) (w : World) (hx : T.zs.length ≤ 9223372036854775807) (h1 : IntsAt w a T.zs) :
    Calls Tryd.prog 19 #[tabV T a c] w fun e w' => e = .returned (.bool (validB T)) ∧ Below w.heap.size w w' := by
  cases hh : headB T.zs.length T.t T.p
  · go_enter Tryd.func19, Tryd.ntmps19
    go_wp2_with (go_at_call 38; refine (l1Head_any _ _ _ _).mono ?_; rintro e w' ⟨rfl, rfl⟩)
    go_ret
    exact ⟨ret_bool (head_valid hh), (Below.refl _ _).alloc (Nat.le_refl _) _⟩
  · have H := Lib.hid hh
    have S1 := (St.start w).read h1 |>.alloc #[.int .i64 T.t, .int .i64 T.p, .slice a T.zs.length c] 25
    have hI := Lib.hid (S1.reads 1 rfl)
    obtain ⟨x0, x1, x2, _, _, _, xz⟩ := facts3 (S1.cells 0 rfl)
    go_enter Tryd.func19, Tryd.ntmps19
    go_wp2_with (go_at_call 38; refine (l1Head_any _ _ _ _).mono ?_; rintro e w' ⟨rfl, rfl⟩)
    go_loop [3, 4, 17] (fun _ _ i => ∃ k : Nat, k ≤ T.zs.length ∧ i = .int .i64 k ∧ Good T.zs k) (fun _ _ i => T.zs.length - (intOf i).toNat)
    case atStart => exact ⟨0, Nat.zero_le _, rfl, Good.zero _⟩
    case round =>
      obtain ⟨k, hk, rfl, hg⟩ := hrel
      have G := Lib.hid hg
      clear hg
      by_cases hlt : k < T.zs.length
      · obtain ⟨b, o, x, rfl, q, X⟩ := hI.out.at hlt
        cases hv : inB x (-2) 99
        · go_wp2_with (first | (go_at_call 39; refine (l1In_any _ _ _ _).mono ?_; rintro e w' ⟨rfl, rfl⟩))
          go_ret
          exact ⟨ret_bool (bad_valid hlt X.out (by simp [hv])), S1.old⟩
        · by_cases h0 : 0 ≤ x
          · cases hf : (fnd T.zs x != k)
            · go_wp2_with (first | (go_at_call 39; refine (l1In_any _ _ _ _).mono ?_; rintro e w' ⟨rfl, rfl⟩) | (go_at_call 40; refine (l1Find_any _ _ _ _ _ hx hI.out).mono ?_; rintro e w' ⟨rfl, rfl⟩))
              go_round
              case rel => exact ⟨k + 1, by omega, by go_num, G.out.succ (by rw [X.out]; exact hv) (fnd_step hlt X.out hf)⟩
              case measure => simp [intOf]; omega
            · go_wp2_with (first | (go_at_call 39; refine (l1In_any _ _ _ _).mono ?_; rintro e w' ⟨rfl, rfl⟩) | (go_at_call 40; refine (l1Find_any _ _ _ _ _ hx hI.out).mono ?_; rintro e w' ⟨rfl, rfl⟩))
              go_ret
              exact ⟨ret_bool (bad_valid hlt X.out (fnd_bad hlt X.out h0 hf)), S1.old⟩
          · go_wp2_with (first | (go_at_call 39; refine (l1In_any _ _ _ _).mono ?_; rintro e w' ⟨rfl, rfl⟩))
            go_round
            case rel => exact ⟨k + 1, by omega, by go_num, G.out.succ (by rw [X.out]; exact hv) (by rw [X.out]; intro h; omega)⟩
            case measure => simp [intOf]; omega
      · go_wp2
        go_ret
        have e : k = T.zs.length := by omega
        have hg := G.out
        rw [e] at hg
        exact ⟨ret_bool (good_valid H.out hg), S1.old⟩

/-- The array of what has been seen: a key is marked just if one of the first k slots holds it. -/
def Seen (zs : List Int) (k : Nat) (b : Nat) (w : World) : Prop :=
  ∀ x : Nat, x < 100 → w.cell? ⟨b, x, none⟩ = some (.bool (decide (∃ j, j < k ∧ nth zs j = x))) ∧ w.frozen? ⟨b, x, none⟩ = false

theorem seen_start (zs : List Int) (w : World) (o : Obj) : Seen zs 0 (w.heap.size + 1) ((w.alloc o).alloc (.cells (Array.replicate 100 (.bool false)) 61)) := by
  intro x hx
  refine ⟨?_, World.frozen?_alloc_at _ _ _ _ (by simp)⟩
  rw [World.cell?_alloc_at _ _ _ _ (by simp)]
  simp [hx]
theorem seen_skip {zs : List Int} {k b : Nat} {w : World} (h : Seen zs k b w) (hn : nth zs k < 0) : Seen zs (k + 1) b w := by
  intro x hx
  refine ⟨?_, (h x hx).2⟩
  rw [(h x hx).1]
  congr 2
  rw [decide_eq_decide]
  constructor
  · rintro ⟨j, hj, he⟩; exact ⟨j, by omega, he⟩
  · rintro ⟨j, hj, he⟩
    by_cases e : j = k
    · subst e; omega
    · exact ⟨j, by omega, he⟩
theorem seen_mark {zs : List Int} {k b m : Nat} {w : World} (h : Seen zs k b w) (he : nth zs k = m) (hm : m < 100) : Seen zs (k + 1) b (w.setCell ⟨b, m, none⟩ (.bool true)) := by
  intro x hx
  refine ⟨?_, (World.frozen?_setCell _ _ _ _).trans (h x hx).2⟩
  by_cases e : x = m
  · subst e
    rw [World.cell?_setCell_same _ _ _ (h x hx).1]
    congr 2
    symm
    rw [decide_eq_true_eq]
    exact ⟨k, by omega, he⟩
  · rw [World.cell?_setCell_other _ _ _ _ (by simp only [ne_eq, Addr.mk.injEq, true_and, and_true]; omega), (h x hx).1]
    congr 2
    rw [decide_eq_decide]
    constructor
    · rintro ⟨j, hj, hj2⟩; exact ⟨j, by omega, hj2⟩
    · rintro ⟨j, hj, hj2⟩
      by_cases e2 : j = k
      · subst e2; omega
      · exact ⟨j, by omega, hj2⟩

set_option maxHeartbeats 1000000 in
theorem TableValid_yes (T : Tab) (a : Option Addr) (c : Nat) (w : World) (hx : T.zs.length ≤ 9223372036854775807) (h1 : IntsAt w a T.zs) (hh : headB T.zs.length T.t T.p = true) :
    Calls Tryd.prog 18 #[tabV T a c] w fun e w' => e = .returned (.bool (validB T)) ∧ Below w.heap.size w w' := by
  obtain ⟨e1, e2, e3⟩ := head_size hh
  have H := Lib.hid hh
  clear hh
  have S1 := (St.start w).read h1 |>.alloc #[.int .i64 T.t, .int .i64 T.p, .slice a T.zs.length c] 25
  obtain ⟨x0, x1, x2, _, _, _, xz⟩ := facts3 (S1.cells 0 rfl)
  go_enter Tryd.func18, Tryd.ntmps18
  go_wp2_with (first | (go_at_call 35; refine (isTimes_any _ _).mono ?_; rintro e w' ⟨rfl, rfl⟩) | (go_at_call 36; refine (isSize_any _ _).mono ?_; rintro e w' ⟨rfl, rfl⟩))
  go_loopw [5, 26] (fun _ i wr => ∃ k : Nat, k ≤ T.zs.length ∧ i = .int .i64 k ∧ Good T.zs k ∧ Seen T.zs k (w.heap.size + 1) wr ∧ St w wr [It.box w.heap.size #[.int .i64 T.t, .int .i64 T.p, .slice a T.zs.length c] 25, It.read w.heap.size a T.zs]) (fun _ i _ => T.zs.length - (intOf i).toNat)
  case atStart => exact ⟨0, Nat.zero_le _, rfl, Good.zero _, seen_start _ _ _, S1.below ((Below.refl _ _).alloc (Nat.le_refl _) _)⟩
  case round =>
    obtain ⟨k, hk, rfl, hg, hs, hst⟩ := hrel
    have G := Lib.hid hg
    have SN := Lib.hid hs
    clear hg hs x0 x1 x2 xz S1
    by_cases hlt : k < T.zs.length
    · obtain ⟨b, o, x, rfl, q, X⟩ := (hst.reads 1 rfl).at hlt
      cases hv : inB x (-2) 99
      · go_wp2_with (first | (go_at_call 37; refine (isValid_any _ _).mono ?_; rintro e w' ⟨rfl, rfl⟩) | (go_at_call 29; refine (isKey_any _ _).mono ?_; rintro e w' ⟨rfl, rfl⟩))
        go_ret
        exact ⟨ret_bool (bad_valid hlt X.out (by simp [hv])), hst.old⟩
      · cases h0 : inB x 0 99
        · go_wp2_with (first | (go_at_call 37; refine (isValid_any _ _).mono ?_; rintro e w' ⟨rfl, rfl⟩) | (go_at_call 29; refine (isKey_any _ _).mono ?_; rintro e w' ⟨rfl, rfl⟩))
          go_roundw
          case rel => exact ⟨k + 1, by omega, by go_num, G.out.succ (by rw [X.out]; exact hv) (by rw [X.out]; intro h; have h1 := inB_false.1 h0; have h2 := inB_iff.1 hv; omega), seen_skip SN.out (by rw [X.out]; have h1 := inB_false.1 h0; have h2 := inB_iff.1 hv; omega), hst⟩
          case measure => simp [intOf]; omega
        · obtain ⟨hx0, hx9⟩ := inB_iff.1 h0
          obtain ⟨m, rfl⟩ : ∃ m : Nat, x = m := ⟨x.toNat, by omega⟩
          obtain ⟨s1, s2⟩ := SN.out m (by omega)
          cases hd : decide (∃ j, j < k ∧ nth T.zs j = m)
          · rw [hd] at s1
            go_wp2_with (first | (go_at_call 37; refine (isValid_any _ _).mono ?_; rintro e w' ⟨rfl, rfl⟩) | (go_at_call 29; refine (isKey_any _ _).mono ?_; rintro e w' ⟨rfl, rfl⟩))
            go_roundw
            case rel =>
              refine ⟨k + 1, by omega, by go_num, G.out.succ (by rw [X.out]; exact hv) ?_, seen_mark SN.out X.out (by omega), hst.setFar (by simp [Far, It.box, It.read]) (by simp) _⟩
              intro _ j hj he
              exact (of_decide_eq_false hd) ⟨j, hj, by rw [he, X.out]⟩
            case measure => simp [intOf]; omega
          · rw [hd] at s1
            go_wp2_with (first | (go_at_call 37; refine (isValid_any _ _).mono ?_; rintro e w' ⟨rfl, rfl⟩) | (go_at_call 29; refine (isKey_any _ _).mono ?_; rintro e w' ⟨rfl, rfl⟩))
            go_ret
            refine ⟨ret_bool (bad_valid hlt X.out ?_), hst.old⟩
            rintro ⟨_, h⟩
            obtain ⟨j, hj, he⟩ := of_decide_eq_true hd
            exact h (by omega) j hj he
    · go_wp2
      go_ret
      have e : k = T.zs.length := by omega
      have hg := G.out
      rw [e] at hg
      exact ⟨ret_bool (good_valid H.out hg), hst.old⟩

set_option maxHeartbeats 1000000 in
theorem TableValid_no (T : Tab) (a : Option Addr) (c : Nat) (w : World) (hh : headB T.zs.length T.t T.p = false) :
    Calls Tryd.prog 18 #[tabV T a c] w fun e w' => e = .returned (.bool (validB T)) ∧ Below w.heap.size w w' := by
  have H := Lib.hid hh
  unfold headB at hh
  cases e1 : inB T.zs.length 1 16
  all_goals cases e2 : inB T.t 0 15
  all_goals cases e3 : inB T.p 0 15
  all_goals try (exfalso; simp [e1, e2, e3] at hh; done)
  all_goals clear hh
  all_goals
    go_enter Tryd.func18, Tryd.ntmps18
    go_wp2_with (first | (go_at_call 35; refine (isTimes_any _ _).mono ?_; rintro e w' ⟨rfl, rfl⟩) | (go_at_call 36; refine (isSize_any _ _).mono ?_; rintro e w' ⟨rfl, rfl⟩))
    go_ret
    exact ⟨ret_bool (head_valid H.out), (Below.refl _ _).alloc (Nat.le_refl _) _⟩

theorem TableValid_any (T : Tab) (a : Option Addr) (c : Nat) (w : World) (hx : T.zs.length ≤ 9223372036854775807) (h1 : IntsAt w a T.zs) :
    Calls Tryd.prog 18 #[tabV T a c] w fun e w' => e = .returned (.bool (validB T)) ∧ Below w.heap.size w w' := by
  cases h : headB T.zs.length T.t T.p
  · exact TableValid_no T a c w h
  · exact TableValid_yes T a c w hx h1 h

end Go.Proofs.YtfkdandmedojpaaDoor

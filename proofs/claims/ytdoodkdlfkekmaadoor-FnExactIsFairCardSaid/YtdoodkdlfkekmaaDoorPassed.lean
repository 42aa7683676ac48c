/-
  How many slots a key goes past.
-/
import Derived.Test.YtdoodkdlfkekmaaDoorLaneI
import Derived.Test.YtdoodkdlfkekmaaDoorQuietR
import Derived.Test.YtdoodkdlfkekmaaDoorAround2
import Derived.Test.YtdoodkdlfkekmaaDoorLook
namespace Go.Proofs.YtdoodkdlfkekmaaDoor
open Go.RowKit Go.Shelf
attribute [local go_sem] Oper.semAt_some

/-- What passed's variables hold when a key has come so far. -/
abbrev passIt (T : Tab) (g : Nat) (key : Int) (hn wz n : Nat) : List It :=
  [It.box (wz + 1) #[.int .i64 key, .int .i64 hn, .int .i64 n] 45, It.box wz (laneK g T T.zs.length) 48, It.box (wz + 1 + 1) #[.func (.func 23) #[] #[]] 57]
/-- All that have been passed stand ahead. -/
def AllAhead (T : Tab) (key : Int) (hn : Nat) (pre : List Nat) : Prop := ∀ i x, pre[i]? = some x → aheadB T (stepS T hn x) key i = true
theorem AllAhead.snoc {T : Tab} {key : Int} {hn : Nat} {pre : List Nat} {x : Nat} (h : AllAhead T key hn pre) (hx : aheadB T (stepS T hn x) key pre.length = true) : AllAhead T key hn (pre ++ [x]) := fun i y hy => by
  rw [List.getElem?_append] at hy
  split at hy
  · exact h i y hy
  · rename_i hi
    obtain rfl : i = pre.length := by
      have := (List.getElem?_eq_some_iff.1 hy).1
      simp at this; omega
    simp at hy
    subst hy
    exact hx
def PassOut (T : Tab) (g : Nat) (key : Int) (hn : Nat) (w : World) (B : Nat) (c : Code) (pre : List Nat) (W : World) : Prop :=
  ∃ pre' x, c = .exit 0 ∧ pre = pre' ++ [x] ∧ AllAhead T key hn pre' ∧ aheadB T (stepS T hn x) key pre'.length = false ∧ St w W (passIt T g key hn w.heap.size pre'.length) ∧ B ≤ W.heap.size
theorem PassOut.own {T : Tab} {g : Nat} {key : Int} {hn : Nat} {w : World} {B : Nat} (hB : w.heap.size + 3 ≤ B) (c : Code) : OwnFrom B (PassOut T g key hn w B c) := by
  rintro s A B' row ⟨pre', x, h1, h2, h3, h4, h5, h6⟩ hg hr
  exact ⟨pre', x, h1, h2, h3, h4, h5.grown2 hg (fun k e => ⟨by have := (hr k e).1; omega, fun i hi => .inr (by
      have := (hr k e).1
      simp only [List.mem_cons, List.not_mem_nil, or_false] at hi
      rcases hi with rfl | rfl | rfl <;> simp [It.box] <;> omega)⟩), Nat.le_trans h6 hg.size⟩

theorem keepsF_below {B : Nat} {W W' : World} (h : Below W.heap.size W W') : KeepsFrom B W W' := ⟨h.size, fun k o _ hk _ => (h.block k (Array.getElem?_eq_some_iff.1 hk).1).trans hk⟩

/-- The function value that passed is handed. -/
def aheadF : Value := .func (.func 23) #[] #[]

theorem range_snoc3 {k : Nat} {pre : List Nat} {x : Nat} (he : List.range k = pre ++ [x]) : k = pre.length + 1 ∧ x = pre.length ∧ pre = List.range pre.length := by
  have hl : k = pre.length + 1 := by have := congrArg List.length he; simpa using this
  subst hl
  rw [List.range_succ] at he
  obtain ⟨e1, e2⟩ := List.append_inj' he rfl
  exact ⟨rfl, by simpa using e2.symm, e1.symm⟩
theorem AllAhead.range {T : Tab} {key : Int} {hn n : Nat} (h : AllAhead T key hn (List.range n)) {d : Nat} (hd : d < n) : aheadB T (stepS T hn d) key d = true := h d d (by simp [hd])
theorem pass_all {T : Tab} {key : Int} {hn n : Nat} (h : AllAhead T key hn (List.range n)) : goN (fun d => !aheadB T (stepS T hn d) key d) n = n := by
  refine Nat.le_antisymm (goN_le _ _) (Nat.le_of_not_lt fun hn2 => ?_)
  have h1 := goN_stop (p := fun d => !aheadB T (stepS T hn d) key d) hn2
  rw [h.range hn2] at h1
  simp at h1
theorem pass_stop {T : Tab} {key : Int} {hn n k : Nat} {pre : List Nat} {x : Nat} (hk : k ≤ n) (he : List.range k = pre ++ [x]) (h : AllAhead T key hn pre) (hs : aheadB T (stepS T hn x) key pre.length = false) :
    goN (fun d => !aheadB T (stepS T hn d) key d) n = pre.length := by
  obtain ⟨e1, e2, e3⟩ := range_snoc3 he
  rw [e3] at h
  subst e2
  exact goN_eq (by omega) (fun d hd => by simp [h.range hd]) (by simp [hs])
theorem setCell_three2 {w : World} {b : Nat} {x y z : Value} {t : TypeId} (h : w.heap[b]? = some (.cells #[x, y, z] t (0, 0))) (v : Value) : (w.setCell ⟨b, 2, none⟩ v).heap[b]? = some (.cells #[x, y, v] t (0, 0)) := by
  simp [World.setCell, Array.getElem?_modify, h]

set_option maxRecDepth 100000 in
set_option maxHeartbeats 20000000 in
theorem passed_any (T : Tab) (g : Nat) (key : Int) (w : World) (hv : validB T = true) (hR : RingAt w g T) (hg : g < w.heap.size) :
    Calls Tryd.prog 21 #[.agg (laneK g T T.zs.length), spotV key (homeN T key : Nat) 0, aheadF] w fun e w' => e = .returned (.int .i64 (passN T key : Nat)) ∧ Below w.heap.size w w' := by
  obtain ⟨⟨l1, l2⟩, _⟩ := valid_facts hv
  have hhl := homeN_lt hv key
  have hpN : Hid (passN T key = goN (fun d => !aheadB T (stepS T (homeN T key) d) key d) T.zs.length) := Lib.hid rfl
  have S0 := (((St.start w).alloc (laneK g T T.zs.length) 48).alloc #[.int .i64 key, .int .i64 (homeN T key : Nat), .int .i64 0] 45).alloc #[.func (.func 23) #[] #[]] 57
  simp only [World.size_alloc] at S0
  generalize homeN T key = hn at hhl S0 hpN ⊢
  generalize passN T key = pN at hpN ⊢
  have q0 := (lane_cells (S0.cells 2 rfl)).1
  obtain ⟨x0, x1, x2, x3, x4, x5, xz⟩ := facts3 (S0.cells 1 rfl)
  unfold spotV aheadF
  refine (callsIn_wide (n := 9)).1 ?_
  refine callsIn_of_wp_marks Tryd.func21 rfl trivial ?_ rfl
  simp only [Tryd.ntmps21, List.size_toArray, List.length_cons, List.length_nil, Nat.reduceAdd, Nat.reduceSub, Array.replicate_succ, Array.replicate_zero, List.push_toArray, List.append_toArray, List.nil_append, List.cons_append]
  gi_step
  gi_step
  refine wpIn_wide.2 ?_
  go_step
  refine wide_box rfl 48 (.tmp 0) rfl (laneK g T T.zs.length) rfl ?_
  go_wp2_with fail
  gi_wp2_with (refine ⟨trivial, ?_⟩; gi_at_call 37; refine (callsIn_wide.2 (ringAround_any _ _ _ _ _)).mono ?_; rintro e w' ⟨rfl, rfl⟩)
  clear q0 x0 x1 x2 x3 x4 x5 xz
  have S4 := (S0.alloc #[.slice (some ⟨g, 0, none⟩) T.zs.length T.zs.length] 40).alloc #[.int .i64 hn] 3
  have z4 := S4.sz 0 rfl
  have hR4 := hR.below S4.old hg
  simp only [World.size_alloc] at S4 z4
  generalize hW4 : ((((w.alloc (.cells (laneK g T T.zs.length) 48)).alloc (.cells #[.int .i64 key, .int .i64 hn, .int .i64 0] 45)).alloc (.cells #[.func (.func 23) #[] #[]] 57)).alloc (.cells #[.slice (some ⟨g, 0, none⟩) T.zs.length T.zs.length] 40)).alloc (.cells #[.int .i64 hn] 3) = W4 at S4 z4 hR4 ⊢
  have z5 : W4.heap.size = w.heap.size + 5 := by rw [← hW4]; simp
  clear hW4
  have hB1 := (facts1 (S4.cells 1 rfl)).1
  have hB2 := (facts1 (S4.cells 0 rfl)).1
  have S5 : St w W4 (passIt T g key hn w.heap.size ([] : List Nat).length) := S4.turn fun i hi => by
    simp only [List.mem_cons, List.not_mem_nil, or_false, List.length_nil] at hi ⊢
    rcases hi with rfl | rfl | rfl <;> simp
  have hItems : ∀ (s : List Nat), ∀ i ∈ passIt T g key hn w.heap.size s.length, i.hi ≤ W4.heap.size := fun s i hi => by
    simp only [List.mem_cons, List.not_mem_nil, or_false] at hi
    rcases hi with rfl | rfl | rfl <;> simp [It.box] <;> omega
  have hzB : w.heap.size + 3 ≤ W4.heap.size := by omega
  refine wpIn_rangeFunc_ownH (n := 9) rfl (by omega) (gf := 51) (lb := #[.pointer (some ⟨w.heap.size + 1 + 1 + 1, 0, none⟩), .pointer (some ⟨w.heap.size + 1 + 1 + 1 + 1, 0, none⟩)]) rfl trivial (enters_of Tryd.func51 (by kernel_rfl) rfl)
    (ringAroundS_stops 8 (by omega) (fun b => b = g ∨ b = w.heap.size + 1 + 1 + 1 ∨ b = w.heap.size + 1 + 1 + 1 + 1) (w.heap.size + 1 + 1 + 1) (w.heap.size + 1 + 1 + 1 + 1) g hn T l1 l2 hhl W4 hB1 hB2 hR4 (.inr (.inl rfl)) (.inr (.inr rfl)) (.inl rfl) (by omega) (by omega) (by omega)) KeepS.trans (fun W l o o' hl _ _ _ => keepS_put (by rintro (e | e | e) <;> omega)) (Below.refl _ _) (fun _ => rfl)
    (fun pre W => (St w W (passIt T g key hn w.heap.size pre.length) ∧ W4.heap.size ≤ W.heap.size) ∧ AllAhead T key hn pre)
    (PassOut T g key hn w W4.heap.size)
    (st_own hItems (by omega)) (fun c => PassOut.own hzB c)
    ⟨⟨S5, Nat.le_refl _⟩, fun i x hx => by simp at hx⟩
    (fun x a' W => a' = { tmps := #[.agg (laneK g T T.zs.length), .agg #[.int .i64 key, .int .i64 hn, .int .i64 0], .func (.func 23) #[] #[], .pointer (some ⟨w.heap.size, 0, none⟩), .pointer (some ⟨w.heap.size + 1, 0, none⟩), .pointer (some ⟨w.heap.size + 1 + 1, 0, none⟩), .int .i64 0, .int .i64 (stepS T hn x), .pointer (some ⟨w.heap.size, 0, none⟩), .slice (some ⟨g, 0, none⟩) T.zs.length T.zs.length, .pointer (some ⟨w.heap.size + 1, 0, none⟩), .pointer (some ⟨w.heap.size + 1, 1, none⟩), .int .i64 hn, .func (.func 51) #[] #[.pointer (some ⟨w.heap.size + 1 + 1 + 1, 0, none⟩), .pointer (some ⟨w.heap.size + 1 + 1 + 1 + 1, 0, none⟩)], .int .i64 (stepS T hn x), .agg #[.int .i64 (nth T.zs (stepS T hn x)), .int .i64 (homeT T (nth T.zs (stepS T hn x)))], undef, undef, undef, undef, undef, undef, undef, undef, undef, undef, undef, undef, undef, undef], defers := [] })
    (fun x a' _ _ _ _ h _ _ => h) ?assign ?body ?done ?stop
  case assign =>
    rintro l pre x W K hJ hK
    gi_wp2
    exact hK _ _ (KeepsFrom.refl _ _) (KeepS.refl _ W) hJ rfl
  case body =>
    rintro l pre x a' W hl hrec ⟨⟨Sp, hz⟩, hf⟩ rfl hlt
    have hkl := stepS_lt l1 hn x
    obtain ⟨v0, v1, v2, v3, v4, v5, vz⟩ := facts3 (Sp.cells 0 rfl)
    obtain ⟨r0, r1, rz⟩ := facts1 (Sp.cells 2 rfl)
    obtain ⟨_, LC, _⟩ := lane_cells (Sp.cells 1 rfl)
    have HAH : Hid (aheadB T (stepS T hn x) key pre.length = if awayOf T (stepS T hn x : Nat) = (pre.length : Int) then decide (nth T.zs (stepS T hn x) < key) else decide ((pre.length : Int) < awayOf T (stepS T hn x : Nat))) := Lib.hid (ahead_if T (stepS T hn x) key pre.length)
    have HSN := Lib.hid fun h => AllAhead.snoc (x := x) hf h
    obtain ⟨e0, e1, e2⟩ := lzk_at T T.zs.length (stepS T hn x) hkl
    have c0 := LC (stepS T hn x * 3) (by omega)
    have c1 := LC (stepS T hn x * 3 + 1) (by omega)
    have c2 := LC (stepS T hn x * 3 + 2) (by omega)
    rw [e0] at c0; rw [e1] at c1; rw [e2] at c2
    clear LC e0 e1 e2
    generalize hkk : stepS T hn x = kk at *
    have HKK := Lib.hid hkk
    clear hkk
    generalize nth T.zs kk = y at *
    generalize homeT T y = hy at *
    generalize awayOf T (kk : Int) = aw at *
    rw [show kk * 3 + 1 = 1 + kk * 3 from Nat.add_comm _ _] at c0
    rw [show kk * 3 + 1 + 1 = 1 + kk * 3 + 1 by omega] at c1
    rw [show kk * 3 + 2 + 1 = 1 + kk * 3 + 2 by omega] at c2
    have HST := Lib.hid fun (W' : World) => standsAhead_any y hy aw key hn pre.length W'
    have k0 : (0 : Int) ≤ (kk : Int) := by omega
    have k1 : (kk : Int) < 16 := by omega
    have hp16 : pre.length ≤ 16 := by omega
    have hmix : Tryd.prog.follows .mixedOrders = true := by kernel_rfl
    rw [← HAH.out] at HST
    generalize hah : aheadB T kk key pre.length = ah at *
    have HA2 := Lib.hid hah
    have HF := Lib.hid hf
    have HI := Lib.hid hItems
    have SP := Lib.hid Sp
    clear hah hf hItems HAH Sp v3 v4 v5 vz S4 S5 hR4 hB1 hB2 S0 hR hv hl hrec hlt
    gi_wp2_with fail
    refine wpIn_region_quietR (fun w' => Below W.heap.size W w') hmix (by kernel_rfl) (by kernel_rfl) ((Below.refl _ _).drew) ?_
    refine wpQuietIn_step (fun _ _ _ _ => trivial) (fun K hK => ?_)
    go_simp
    refine ⟨.func (.func 23) #[] #[], fun w' hb => ?_, hK _ ?_⟩
    · have q := (hb.cell (p := ⟨w.heap.size + 1 + 1, 0, none⟩) (by show w.heap.size + 1 + 1 < _; omega)).trans r0
      go_simp
    clear hK K
    refine wpQuietIn_step (fun _ _ _ _ => trivial) (fun K hK => ?_)
    go_simp
    refine ⟨_, fun w' hb => rfl, hK _ ?_⟩
    clear hK K
    refine wpQuietIn_step (fun _ _ _ _ => trivial) (fun K hK => ?_)
    go_simp
    refine ⟨_, fun w' hb => rfl, hK _ ?_⟩
    clear hK K
    refine wpQuietIn_step (fun _ _ _ _ => trivial) (fun K hK => ?_)
    go_simp
    refine ⟨_, fun w' hb => rfl, hK _ ?_⟩
    clear hK K
    refine wpQuietIn_step (fun _ _ _ _ => trivial) (fun K hK => ?_)
    go_simp
    refine ⟨spotV y hy aw, fun w' hb => ?_, hK _ ?_⟩
    · have q0 := (hb.cell (p := ⟨w.heap.size, 1 + kk * 3, none⟩) (by show w.heap.size < _; omega)).trans c0
      have q1 := (hb.cell (p := ⟨w.heap.size, 1 + kk * 3 + 1, none⟩) (by show w.heap.size < _; omega)).trans c1
      have q2 := (hb.cell (p := ⟨w.heap.size, 1 + kk * 3 + 2, none⟩) (by show w.heap.size < _; omega)).trans c2
      unfold spotV
      go_simp
    clear hK K
    refine wpQuietIn_step (fun _ _ _ _ => trivial) (fun K hK => ?_)
    go_simp
    refine ⟨spotV key hn pre.length, fun w' hb => ?_, hK _ ?_⟩
    · have q0 := (hb.cell (p := ⟨w.heap.size + 1, 0, none⟩) (by show w.heap.size + 1 < _; omega)).trans v0
      have q1 := (hb.cell (p := ⟨w.heap.size + 1, 1, none⟩) (by show w.heap.size + 1 < _; omega)).trans v1
      have q2 := (hb.cell (p := ⟨w.heap.size + 1, 2, none⟩) (by show w.heap.size + 1 < _; omega)).trans v2
      unfold spotV
      go_simp
    clear hK K
    refine wpQuietIn_step (fun _ _ _ _ => trivial) (fun K hK => ?_)
    go_simp
    refine ⟨.bool ah, fun w' hb => (CallsIn.inRound l (callsIn_wide.2 (HST.out w'))).mono ?_, hK _ ?_⟩
    · rintro e w6 ⟨rfl, hb6⟩
      exact ⟨rfl, hb.trans (hb6.mono hb.size)⟩
    clear hK K
    refine wpQuietIn_step (fun _ _ _ _ => trivial) (fun K hK => ?_)
    go_simp
    refine ⟨_, fun w' hb => rfl, hK _ ?_⟩
    clear hK K
    refine wpQuietIn_nil ?_
    rintro w6 hb6
    have S6 := SP.out.below hb6
    obtain ⟨v0, v1, v2, v3, v4, v5, vz⟩ := facts3 (S6.cells 0 rfl)
    have KF : Hid (KeepsFrom W4.heap.size W w6) := Lib.hid (keepsF_below hb6)
    have KS : Hid (KeepS (fun b => b = g ∨ b = w.heap.size + 1 + 1 + 1 ∨ b = w.heap.size + 1 + 1 + 1 + 1) W w6) := Lib.hid ((KeepS.refl _ W).below (m := W4.heap.size) (by rintro k (e | e | e) <;> omega) hz hb6)
    have hz6 : W4.heap.size ≤ w6.heap.size := Nat.le_trans hz hb6.size
    have E7 : Hid (St w (w6.setCell ⟨w.heap.size + 1, 2, none⟩ (.int .i64 (pre.length + 1))) (passIt T g key hn w.heap.size (pre ++ [x]).length)) := Lib.hid (by
      have e : ((pre ++ [x]).length : Int) = pre.length + 1 := by simp
      unfold passIt
      rw [e]
      exact S6.setBoxAt 0 rfl 2 (.int .i64 (pre.length + 1)) (setCell_three2 (S6.cells 0 rfl) _) (by simp [Far, It.box]) (by omega))
    have E8 : Hid (KeepsFrom W4.heap.size W (w6.setCell ⟨w.heap.size + 1, 2, none⟩ (.int .i64 (pre.length + 1)))) := Lib.hid (KF.out.trans ((KeepsOthers.setCell _ _ _).from _))
    have E9 : Hid (KeepS (fun b => b = g ∨ b = w.heap.size + 1 + 1 + 1 ∨ b = w.heap.size + 1 + 1 + 1 + 1) W (w6.setCell ⟨w.heap.size + 1, 2, none⟩ (.int .i64 (pre.length + 1)))) := Lib.hid (KS.out.set (by rintro (e | e | e) <;> simp only at e <;> omega) _)
    have Z5 := Lib.hid z5
    clear z5
    clear r0 c0 c1 c2 HST
    cases ah
    · gi_wp2_with fail
      exact ⟨KF.out, pre, x, rfl, rfl, HF.out, by rw [HKK.out]; exact HA2.out, S6, hz6⟩
    · gi_wp2_with fail
      exact ⟨E8.out, E9.out, ⟨E7.out, by simpa [World.setCell] using hz6⟩, HSN.out trivial⟩
  case done =>
    rintro D ys W hD rfl ⟨⟨Sp, hz⟩, hf⟩ hK
    obtain ⟨v0, v1, v2, v3, v4, v5, vz⟩ := facts3 (Sp.cells 0 rfl)
    have HP : Hid (pN = T.zs.length) := Lib.hid (by rw [hpN.out]; exact pass_all hf)
    have S10 := st_put (o := .deferred none) Sp (B := w.heap.size + 3) (D := D) (by simp [It.box]) (by omega) (by omega)
    clear hf
    gi_wp2_with fail
    refine ⟨by simp, .inl ⟨_, _, rfl, run_takeDeferred hK, ?_⟩⟩
    refine ⟨.int .i64 pN, ?_, rfl, S10.old⟩
    rw [HP.out]
    simp [results, Tryd.f21, go_sem]
  case stop =>
    rintro D c pre W hD ⟨k, hk, he⟩ ⟨pre', x, rfl, rfl, hf, hs, Sp, hz⟩ hK
    obtain ⟨v0, v1, v2, v3, v4, v5, vz⟩ := facts3 (Sp.cells 0 rfl)
    have HP : Hid (pN = pre'.length) := Lib.hid (by rw [hpN.out]; exact pass_stop hk he hf hs)
    have S10 := st_put (o := .deferred none) Sp (B := w.heap.size + 3) (D := D) (by simp [It.box]) (by omega) (by omega)
    clear hf hs he
    gi_wp2_with fail
    refine ⟨by simp, .inl ⟨_, _, rfl, run_takeDeferred hK, ?_⟩⟩
    refine ⟨.int .i64 pN, ?_, rfl, S10.old⟩
    rw [HP.out]
    simp [results, Tryd.f21, go_sem]

end Go.Proofs.YtdoodkdlfkekmaaDoor

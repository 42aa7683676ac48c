/-
  Fair tables: several texts as one.
-/
import Derived.Test.YtpncpeokdcolpaaGreatDoorMath
import Derived.Test.YtpncpeokdcolpaaGreatDoorLooksAll
import Derived.Test.YtpncpeokdcolpaaGreatDoorFinds2All
import Derived.Test.YtpncpeokdcolpaaGreatDoorAway
import Derived.Test.YtpncpeokdcolpaaGreatDoorFairAll
import Derived.Test.YtpncpeokdcolpaaGreatDoorBase
import Derived.Test.YtpncpeokdcolpaaGreatDoorModel6All
section
namespace Go.Proofs.YtpncpeokdcolpaaGreatDoor
open Go.RowKit Go.Shelf
attribute [local go_sem] Oper.semAt_some

/-- A ring in memory. -/
def It.ring (lo hi g : Nat) (T : Tab) : It where
  lo := lo
  hi := hi
  P := fun w => RingAt w g T ∧ lo ≤ g ∧ g < hi
  loc := fun w _ _ _ h hp => ⟨fun i hi' => ⟨(World.cell?_of_block (w := w) (a := ⟨g, i * 2, none⟩) (h g hp.2.1 hp.2.2)).trans (hp.1 i hi').1, (World.cell?_of_block (w := w) (a := ⟨g, i * 2 + 1, none⟩) (h g hp.2.1 hp.2.2)).trans (hp.1 i hi').2⟩, hp.2⟩
theorem St.ringAt {w0 w : World} {l : List It} {lo hi g : Nat} {T : Tab} (h : St w0 w l) (n : Nat) (hi' : l[n]? = some (It.ring lo hi g T)) : RingAt w g T := (h.get n hi').1
theorem far_ofI {i : It} {l : List It} (h : ∀ j ∈ l, j.hi ≤ i.lo ∨ i.hi ≤ j.lo) : Far i l := by
  induction l with
  | nil => trivial
  | cons x l ih => exact ⟨h x (List.mem_cons_self ..), ih fun j hj => h j (List.mem_cons_of_mem _ hj)⟩
theorem far_new {w0 w : World} {l : List It} (h : St w0 w l) {b : Nat} (hb : w.heap.size ≤ b) (c : Array Value) (t : TypeId) : Far (It.box b c t) l :=
  far_ofI fun j hj => .inl (Nat.le_trans (h.all j hj).1 hb)

/-- What ends a search. -/
abbrev endsF (E cb : Nat) : Value := .func (.func E) #[] #[.pointer (some ⟨cb, 0, none⟩)]

set_option maxRecDepth 100000 in
set_option maxHeartbeats 1000000 in
theorem upTo1_any (E cb vb fb k : Nat) (slot x hm : Int) (b : Bool) (l : List It) (w0 w : World) (hk : k ≤ 1000) (hlo : w0.heap.size ≤ vb)
    (S : St w0 w (It.box vb #[.int .i64 k] 3 :: It.box fb #[endsF E cb] 66 :: l)) (hf : Far (It.box vb #[.int .i64 k] 3) (It.box fb #[endsF E cb] 66 :: l))
    (hEnt : Enters Tryz.prog E) (hE : ∀ W, St w0 W l → Calls Tryz.prog E #[.int .i64 slot, .int .i64 k, .pointer (some ⟨cb, 0, none⟩)] W fun e w' => e = .returned (.bool b) ∧ Below W.heap.size W w') :
    Calls Tryz.prog 92 #[.int .i64 slot, .agg #[.int .i64 x, .int .i64 hm], .pointer (some ⟨vb, 0, none⟩), .pointer (some ⟨fb, 0, none⟩)] w fun e w' =>
      e = .returned (.bool (!b)) ∧ St w0 w' (It.box vb #[.int .i64 (k + 1 : Nat)] 3 :: It.box fb #[endsF E cb] 66 :: l) := by
  have S0 := S.alloc #[.int .i64 x, .int .i64 hm] 55
  obtain ⟨v0, v1, vz⟩ := facts1 (S0.cells 1 rfl)
  have S1 := S0.setBoxAt 1 rfl (c' := #[.int .i64 ((k : Int) + 1)]) 0 (.int .i64 ((k : Int) + 1)) (setCell_at (S0.cells 1 rfl) 0 _) ⟨.inr (Nat.lt_of_lt_of_le (Array.getElem?_eq_some_iff.1 (S.cells 0 rfl)).1 (Nat.le_refl _)), hf⟩ hlo
  obtain ⟨f0, f1, fz⟩ := facts1 (S1.cells 2 rfl)
  go_enter Tryz.func92, Tryz.ntmps92
  go_wp2_with fail
  rw [hEnt, Oper.upon_enter]
  refine (hE _ (S1.turn fun i hi => by
    simp only [List.set_cons_succ, List.set_cons_zero, List.mem_cons]
    exact .inr (.inr (.inr hi)))).mono ?_
  rintro e w1 ⟨rfl, hb⟩
  have S2 := (S1.below hb).turn (l' := It.box vb #[.int .i64 (k + 1 : Nat)] 3 :: It.box fb #[endsF E cb] 66 :: l) fun i hi => by
    simp only [List.set_cons_succ, List.set_cons_zero, List.mem_cons] at hi ⊢
    exact .inr hi
  go_wp2
  go_ret
  exact ⟨rfl, S2⟩


set_option maxRecDepth 100000 in
set_option maxHeartbeats 2000000 in
/-- The iterator around a ring, when it is called with what counts. -/
theorem aroundC_any (E cb vb fb B1 B2 lo hi g h n1 n2 n3 : Nat) (T : Tab) (f : Nat → Bool) (l : List It) (w0 w : World) (l1 : 1 ≤ T.zs.length) (l2 : T.zs.length ≤ 16) (hh : h < T.zs.length) (hlo : w0.heap.size ≤ vb)
    (i1 : l[n1]? = some (It.box B1 #[.slice (some ⟨g, 0, none⟩) T.zs.length T.zs.length] 52)) (i2 : l[n2]? = some (It.box B2 #[.int .i64 h] 3)) (i3 : l[n3]? = some (It.ring lo hi g T))
    (hf : ∀ k : Nat, Far (It.box vb #[.int .i64 k] 3) (It.box fb #[endsF E cb] 66 :: l))
    (S : St w0 w (It.box vb #[.int .i64 (0 : Nat)] 3 :: It.box fb #[endsF E cb] 66 :: l))
    (hEnt : Enters Tryz.prog E) (hE : ∀ d W, d < T.zs.length → St w0 W l → Calls Tryz.prog E #[.int .i64 (stepS T h d : Nat), .int .i64 d, .pointer (some ⟨cb, 0, none⟩)] W fun e w' => e = .returned (.bool (f d)) ∧ Below W.heap.size W w') :
    Calls Tryz.prog 93 #[.func (.func 92) #[] #[.pointer (some ⟨vb, 0, none⟩), .pointer (some ⟨fb, 0, none⟩)], .pointer (some ⟨B1, 0, none⟩), .pointer (some ⟨B2, 0, none⟩)] w fun e w' =>
      (∃ v, e = .returned v) ∧ St w0 w' (It.box vb #[.int .i64 (cntN f T.zs.length : Nat)] 3 :: It.box fb #[endsF E cb] 66 :: l) := by
  obtain ⟨v0, v1, vz⟩ := facts1 (S.cells 0 rfl)
  obtain ⟨c0, c1, cz⟩ := facts1 (S.cells (n1 + 2) i1)
  have HC : Hid (∀ k, k < T.zs.length → (∀ j, j < k → f j = false) → f k = true → cntN f T.zs.length = k + 1) := Lib.hid fun k hk h1 h2 => cntN_stop hk h1 h2
  have HA : Hid ((∀ j, j < T.zs.length → f j = false) → cntN f T.zs.length = T.zs.length) := Lib.hid fun h => cntN_all h
  generalize cntN f T.zs.length = cn at HC HA
  go_enter Tryz.func93, Tryz.ntmps93
  go_wp2_with fail
  clear v0 v1 vz c0 c1 cz
  go_loopw [8] (fun i wr => ∃ d : Nat, d ≤ T.zs.length ∧ i = .int .i64 d ∧ Hid (∀ j, j < d → f j = false) ∧ St w0 wr (It.box vb #[.int .i64 d] 3 :: It.box fb #[endsF E cb] 66 :: l)) (fun i _ => T.zs.length - (intOf i).toNat)
  case atStart => exact ⟨0, Nat.zero_le _, rfl, Lib.hid fun j hj => by omega, S⟩
  case round =>
    obtain ⟨d, hd, rfl, HF, Sr⟩ := hrel
    clear S
    by_cases hlt : d < T.zs.length
    · obtain ⟨c0, c1, cz⟩ := facts1 (Sr.cells (n1 + 2) i1)
      obtain ⟨b0, b1, bz⟩ := facts1 (Sr.cells (n2 + 2) i2)
      have hkl := stepS_lt (T := T) l1 h d
      obtain ⟨r0, r1⟩ := (Sr.ringAt (n3 + 2) i3) _ hkl
      have HS := Lib.hid (step_cast T h d)
      have HU := Lib.hid (fun (x hm : Int) => upTo1_any E cb vb fb d (stepS T h d : Nat) x hm (f d) l w0 wr (by omega) hlo Sr (hf d) hEnt (fun W hW => hE d W hlt hW))
      generalize stepS T h d = kk at hkl r0 r1 HS HU
      generalize nth T.zs kk = x at r0 r1
      generalize homeT T x = hm at r1
      have HST := Lib.hid fun (h1 : f d = false) => stop_step HF.out h1
      have hcd := HC.out d hlt HF.out
      cases hfd : f d
      · rw [hfd] at HU
        have HF2 := Lib.hid (HST.out hfd)
        go_wp2_with (first
          | (go_at_call 94; refine (wrap_any _ _ _ _ _ l1 l2 (by omega) (by omega)).mono ?_; rintro e w' ⟨rfl, rfl⟩; rw [HS.out])
          | (go_at_call 92; refine (HU.out x hm).mono ?_; rintro e w2 ⟨rfl, S2⟩))
        go_roundw
        case rel => exact ⟨d + 1, by omega, by go_num, HF2, S2⟩
        case measure => simp [intOf]; omega
      · rw [hfd] at HU
        have HE : Hid (cn = d + 1) := Lib.hid (hcd hfd)
        go_wp2_with (first
          | (go_at_call 94; refine (wrap_any _ _ _ _ _ l1 l2 (by omega) (by omega)).mono ?_; rintro e w' ⟨rfl, rfl⟩; rw [HS.out])
          | (go_at_call 92; refine (HU.out x hm).mono ?_; rintro e w2 ⟨rfl, S2⟩))
        refine bodyPost_ret (results_none rfl _ _ _) rfl ?_
        exact ⟨⟨_, rfl⟩, by rw [HE.out]; exact S2⟩
    · obtain rfl : d = T.zs.length := by omega
      have HE : Hid (cn = T.zs.length) := Lib.hid (HA.out HF.out)
      go_wp2
      go_end0
      exact ⟨⟨_, rfl⟩, by rw [HE.out]; exact Sr⟩

set_option maxRecDepth 100000 in
set_option maxHeartbeats 1000000 in
theorem visitsUpTo_any (E cb B1 B2 lo hi g h n1 n2 n3 : Nat) (T : Tab) (f : Nat → Bool) (l : List It) (w0 w : World) (l1 : 1 ≤ T.zs.length) (l2 : T.zs.length ≤ 16) (hh : h < T.zs.length)
    (i1 : l[n1]? = some (It.box B1 #[.slice (some ⟨g, 0, none⟩) T.zs.length T.zs.length] 52)) (i2 : l[n2]? = some (It.box B2 #[.int .i64 h] 3)) (i3 : l[n3]? = some (It.ring lo hi g T))
    (S : St w0 w l)
    (hEnt : Enters Tryz.prog E) (hE : ∀ d W, d < T.zs.length → St w0 W l → Calls Tryz.prog E #[.int .i64 (stepS T h d : Nat), .int .i64 d, .pointer (some ⟨cb, 0, none⟩)] W fun e w' => e = .returned (.bool (f d)) ∧ Below W.heap.size W w') :
    Calls Tryz.prog 45 #[.func (.func 93) #[] #[.pointer (some ⟨B1, 0, none⟩), .pointer (some ⟨B2, 0, none⟩)], endsF E cb] w fun e w' =>
      e = .returned (.int .i64 (cntN f T.zs.length : Nat)) ∧ St w0 w' l := by
  have S0 := (S.alloc #[endsF E cb] 66).alloc #[.int .i64 (0 : Nat)] 3
  rw [World.size_alloc] at S0
  have hF : ∀ k : Nat, Far (It.box (w.heap.size + 1) #[.int .i64 k] 3) (It.box w.heap.size #[endsF E cb] 66 :: l) := fun k => far_ofI fun j hj => by
    rcases List.mem_cons.1 hj with rfl | hj
    · exact .inl (Nat.le_refl _)
    · exact .inl (Nat.le_trans (S.all j hj).1 (Nat.le_succ _))
  have HAR := Lib.hid (aroundC_any E cb (w.heap.size + 1) w.heap.size B1 B2 lo hi g h n1 n2 n3 T f l w0 _ l1 l2 hh (Nat.le_trans S.size (Nat.le_succ _)) i1 i2 i3 hF S0 hEnt hE)
  obtain ⟨v0, v1, vz⟩ := facts1 (S0.cells 0 rfl)
  obtain ⟨f0, f1, fz⟩ := facts1 (S0.cells 1 rfl)
  go_enter Tryz.func45, Tryz.ntmps45
  go_wp2_with fail
  clear v0 v1 vz f0 f1 fz
  refine HAR.out.mono ?_
  rintro e w1 ⟨⟨v, rfl⟩, S1⟩
  obtain ⟨v0, v1, vz⟩ := facts1 (S1.cells 0 rfl)
  go_wp2
  go_ret
  exact ⟨rfl, S1.turn fun i hi => List.mem_cons_of_mem _ (List.mem_cons_of_mem _ hi)⟩

end Go.Proofs.YtpncpeokdcolpaaGreatDoor
end

section
namespace Go.Proofs.YtpncpeokdcolpaaGreatDoor
open Go.RowKit Go.Shelf
attribute [local go_sem] Oper.semAt_some

set_option maxHeartbeats 1000000 in
theorem hasSlot_any (T : Tab) (a : Option Addr) (c : Nat) (x : Int) (w : World) :
    Calls Tryz.prog 43 #[tabV T a c, .int .i64 x] w fun e w' => e = .returned (.bool (inB x 0 (T.zs.length - 1))) ∧ Below w.heap.size w w' := by
  have S0 := (St.start w).alloc #[.int .i64 T.t, .int .i64 T.p, .slice a T.zs.length c] 27
  obtain ⟨x0, x1, x2, x3, x4, x5, xz⟩ := facts3 (S0.cells 0 rfl)
  by_cases h : 0 ≤ x
  · have d1 : decide (0 ≤ x) = true := decide_eq_true h
    have E : Hid (inB x 0 (T.zs.length - 1) = decide (x < (T.zs.length : Int))) := Lib.hid (by
      unfold inB
      rw [d1, Bool.true_and, Bool.eq_iff_iff, decide_eq_true_eq, decide_eq_true_eq]
      omega)
    go_enter Tryz.func43, Tryz.ntmps43
    go_wp2
    go_ret
    exact ⟨by rw [E.out]; rfl, S0.old⟩
  · have d1 : decide (0 ≤ x) = false := decide_eq_false h
    have E : Hid (inB x 0 (T.zs.length - 1) = false) := Lib.hid (by simp [inB, d1])
    go_enter Tryz.func43, Tryz.ntmps43
    go_wp2
    go_ret
    exact ⟨by rw [E.out]; rfl, S0.old⟩

theorem missAt1_any (cb lo hi g k n1 n3 : Nat) (d : Int) (T : Tab) (l : List It) (w0 w : World) (hk : k < T.zs.length)
    (i1 : l[n1]? = some (It.box cb #[.slice (some ⟨g, 0, none⟩) T.zs.length T.zs.length] 52)) (i3 : l[n3]? = some (It.ring lo hi g T)) (S : St w0 w l) :
    Calls Tryz.prog 60 #[.int .i64 k, .int .i64 d, .pointer (some ⟨cb, 0, none⟩)] w fun e w' => e = .returned (.bool (nth T.zs k == -1)) ∧ Below w.heap.size w w' := by
  obtain ⟨v0, v1, vz⟩ := facts1 (S.cells n1 i1)
  obtain ⟨r0, r1⟩ := S.ringAt n3 i3 k hk
  generalize nth T.zs k = x at r0
  go_enter Tryz.func60, Tryz.ntmps60
  go_wp2
  go_ret
  exact ⟨rfl, Below.refl _ _⟩

set_option maxRecDepth 100000 in
set_option maxHeartbeats 2000000 in
theorem MissAt_any (T : Tab) (a : Option Addr) (c : Nat) (home : Int) (w : World) (hx : T.zs.length ≤ 9223372036854775807) (h1 : IntsAt w a T.zs) :
    Calls Tryz.prog 17 #[tabV T a c, .int .i64 home] w fun e w' => e = .returned (.int .i64 (missI T home)) ∧ Below w.heap.size w w' := by
  have S0 := tabBox c 27 h1
  cases hv : validB T
  · go_enter Tryz.func17, Tryz.ntmps17
    go_wp2_with fail
    refine (TableValid_any T a c _ hx (by exact S0.reads 1 rfl)).mono ?_
    rw [hv]
    rintro e w1 ⟨rfl, hb⟩
    have S1 := S0.below hb
    go_wp2
    go_ret
    exact ⟨by simp [missI, hv], S1.old⟩
  · obtain ⟨⟨l1, l2⟩, _⟩ := valid_facts hv
    cases hi : inB home 0 (T.zs.length - 1)
    · go_enter Tryz.func17, Tryz.ntmps17
      go_wp2_with fail
      refine (TableValid_any T a c _ hx (by exact S0.reads 1 rfl)).mono ?_
      rw [hv]
      rintro e w1 ⟨rfl, hb⟩
      have S1 := S0.below hb
      obtain ⟨x0, x1, x2, x3, x4, x5, xz⟩ := facts3 (S1.cells 0 rfl)
      go_wp2_with fail
      refine (hasSlot_any T a c home _).mono ?_
      rw [hi]
      rintro e w2 ⟨rfl, hb⟩
      have S2 := S1.below hb
      go_wp2
      go_ret
      exact ⟨by simp [missI, hi], S2.old⟩
    · obtain ⟨s0, s1⟩ := inB_iff.1 hi
      obtain ⟨h, rfl⟩ : ∃ h : Nat, home = h := ⟨home.toNat, by omega⟩
      have hh : h < T.zs.length := by omega
      have R : Hid (missI T h = (cntN (freeAt T h) T.zs.length : Nat)) := Lib.hid (by simp [missI, hv, hi, missN])
      go_enter Tryz.func17, Tryz.ntmps17
      go_wp2_with fail
      refine (TableValid_any T a c _ hx (by exact S0.reads 1 rfl)).mono ?_
      rw [hv]
      rintro e w1 ⟨rfl, hb⟩
      have S1 := S0.below hb
      clear S0 hb
      obtain ⟨x0, x1, x2, x3, x4, x5, xz⟩ := facts3 (S1.cells 0 rfl)
      go_wp2_with fail
      refine (hasSlot_any T a c h _).mono ?_
      rw [hi]
      rintro e w2 ⟨rfl, hb⟩
      have S2 := S1.below hb
      clear S1 hb x0 x1 x2 x3 x4 x5 xz
      obtain ⟨x0, x1, x2, x3, x4, x5, xz⟩ := facts3 (S2.cells 0 rfl)
      go_wp2_with fail
      refine (ringOf_any T a c _ (by exact S2.reads 1 rfl) hv).mono ?_
      rintro e w3 ⟨g, rfl, hg0, hg, hr, hb⟩
      have S3 := (((((S2.below hb).turn (l' := []) fun i hi => by cases hi).add (It.ring w2.heap.size w3.heap.size g T) (Nat.le_refl _) ⟨hr, hg0, hg⟩).alloc #[.slice (some ⟨g, 0, none⟩) T.zs.length T.zs.length] 52).alloc #[.slice (some ⟨g, 0, none⟩) T.zs.length T.zs.length] 52).alloc #[.int .i64 h] 3
      simp only [World.size_alloc] at S3
      clear S2 hb hr x0 x1 x2 x3 x4 x5 xz
      have V := Lib.hid (visitsUpTo_any 60 w3.heap.size (w3.heap.size + 1) (w3.heap.size + 1 + 1) w2.heap.size w3.heap.size g h 1 0 3 T (freeAt T h) _ w _ l1 l2 hh rfl rfl rfl S3 (enters_of Tryz.func60 (by kernel_rfl) rfl)
        (fun d W hd hW => missAt1_any w3.heap.size w2.heap.size w3.heap.size g (stepS T h d) 2 3 d T _ w W (stepS_lt l1 h d) rfl rfl hW))
      go_wp2_with (first | (go_at_call 46; refine (ringAround_any _ _ _ _ _).mono ?_; rintro e w' ⟨rfl, rfl⟩))
      refine V.out.mono ?_
      rintro e w5 ⟨rfl, S5⟩
      go_wp2
      go_ret
      exact ⟨by rw [R.out]; rfl, S5.old⟩

/-- What homes cost: a number for each of 16 slots. -/
def costK (p : Nat → Int) : Array Value := ((List.range 16).map fun j => Value.int .i64 (p j)).toArray
def cost0 : Array Value := Array.replicate 16 (.int .i64 0)
theorem cost0_size : cost0.size = 16 := by simp [cost0]
theorem costK_size (p : Nat → Int) : (costK p).size = 16 := by simp [costK]
theorem costK_one (p : Nat → Int) : (costK p).all (·.oneCell') = true := by
  rw [Array.all_eq_true_iff_forall_mem]
  intro x hx
  simp only [costK, List.mem_toArray, List.mem_map] at hx
  obtain ⟨j, _, rfl⟩ := hx
  rfl
theorem costK_at (p : Nat → Int) {j : Nat} (hj : j < 16) : (costK p)[j]? = some (.int .i64 (p j)) := by
  unfold costK
  simp [hj]
theorem costK_eq {p q : Nat → Int} (h : ∀ j, j < 16 → p j = q j) : costK p = costK q := by
  unfold costK
  congr 1
  refine List.map_congr_left fun j hj => ?_
  rw [h j (List.mem_range.1 hj)]
theorem costK_zero : costK (fun _ => 0) = cost0 := by
  apply Array.ext_getElem?
  intro i
  by_cases hi : i < 16
  · rw [costK_at _ hi]
    simp [cost0, hi]
  · rw [Array.getElem?_eq_none (by rw [costK_size]; omega), Array.getElem?_eq_none (by rw [cost0_size]; omega)]
theorem costK_set (p : Nat → Int) {k : Nat} (hk : k < 16) (x : Int) : (costK p).setIfInBounds k (.int .i64 x) = costK fun j => if k = j then x else p j := by
  apply Array.ext_getElem?
  intro i
  rw [Array.getElem?_setIfInBounds]
  by_cases hi : i < 16
  · rw [costK_at p hi, costK_at (fun j => if k = j then x else p j) hi]
    by_cases e : k = i
    · subst e
      rw [if_pos rfl, if_pos (by rw [costK_size]; exact hk), if_pos rfl]
    · rw [if_neg e, if_neg e]
  · rw [if_neg (by omega), Array.getElem?_eq_none (by rw [costK_size]; omega), Array.getElem?_eq_none (by rw [costK_size]; omega)]
theorem infoCost : (Tryz.prog.info? 96).map (fun i => (i.zero, i.size)) = some (some (.agg cost0), 16) := by kernel_rfl
theorem sizeCost : (Tryz.prog.info? 96).map (·.size) = some 16 := by kernel_rfl
theorem zeroCost : ∀ w, (zeroValue 96).run Tryz.prog w = .ok (.agg cost0) w := by
  intro w
  have h := infoCost
  cases hi : Tryz.prog.info? 96 with
  | none => rw [hi] at h; cases h
  | some i =>
    rw [hi] at h
    simp only [Option.map_some, Option.some.injEq, Prod.mk.injEq] at h
    simp [zeroValue, typeInfo, hi, h.1]
theorem cost_setCell {w : World} {b : Nat} {c : Array Value} {t : TypeId} (h : w.heap[b]? = some (.cells c t (0, 0))) (k : Nat) (v : Value) : (w.setCell ⟨b, k, none⟩ v).heap[b]? = some (.cells (c.setIfInBounds k v) t (0, 0)) := by
  simp [World.setCell, Array.getElem?_modify, h]
theorem index_cost {C : Array Value} {j : Nat} {x : Int} (hj : j < 16) (h : C[j]? = some (.int .i64 x)) (w : World) : (Instr.index 96 (.agg C) (.int .i64 j)).run Tryz.prog w = .ok (.int .i64 x) w := by
  have h0 : (0 : Int) ≤ (j : Int) ∧ (j : Int) < 16 := by omega
  simp [Instr.index, run_underlying Tryz.underlying96, asIntOf, h0, go_sem]
  rw [if_pos hj, h]
  rfl

/-- The misses of the first k homes. -/
def costT (T : Tab) (k j : Nat) : Int := if j < k then missN T j else 0

set_option maxRecDepth 100000 in
set_option maxHeartbeats 2000000 in
theorem missesOf_any (T : Tab) (a : Option Addr) (c : Nat) (w : World) (hv : validB T = true) (h1 : IntsAt w a T.zs) :
    Calls Tryz.prog 73 #[tabV T a c] w fun e w' => e = .returned (.agg (costK (costT T T.zs.length))) ∧ Below w.heap.size w w' := by
  obtain ⟨⟨l1, l2⟩, _⟩ := valid_facts hv
  have S0 := ((tabBox c 27 h1).alloc cost0 96).alloc cost0 96
  simp only [World.size_alloc] at S0
  have HV := Lib.hid hv
  obtain ⟨x0, x1, x2, x3, x4, x5, xz⟩ := facts3 (S0.cells 2 rfl)
  go_enter Tryz.func73, Tryz.ntmps73
  go_wp2_with (refine wide_alloc rfl 96 rfl cost0 zeroCost ?_)
  clear x0 x1 x2 x3 x4 x5 xz
  go_loopw [8] (fun i wr => ∃ k : Nat, k ≤ T.zs.length ∧ i = .int .i64 k ∧ St w wr [It.box (w.heap.size + 1 + 1) (costK (costT T k)) 96, It.box (w.heap.size + 1) cost0 96, It.box w.heap.size #[.int .i64 T.t, .int .i64 T.p, .slice a T.zs.length c] 27, It.read w.heap.size a T.zs]) (fun i _ => T.zs.length - (intOf i).toNat)
  case atStart => exact ⟨0, Nat.zero_le _, rfl, by rw [show costT T 0 = (fun _ => 0) by funext j; simp [costT], costK_zero]; exact S0⟩
  case round =>
    obtain ⟨k, hk, rfl, Sr⟩ := hrel
    clear S0
    by_cases hlt : k < T.zs.length
    · have k16 : k < 16 := by omega
      have j0 : (0 : Int) ≤ (k : Int) := by omega
      have j1 : (k : Int) < 16 := by omega
      have HX : Hid ((costK (costT T k)).setIfInBounds k (.int .i64 (missN T k : Nat)) = costK (costT T (k + 1))) := Lib.hid (by
        rw [costK_set _ k16]
        refine costK_eq fun j _ => ?_
        unfold costT
        by_cases e : k = j
        · subst e; rw [if_pos rfl, if_pos (by omega)]
        · rw [if_neg e]
          by_cases c : j < k
          · rw [if_pos c, if_pos (by omega)]
          · rw [if_neg c, if_neg (by omega)])
      have hmi : missI T k = (missN T k : Nat) := by simp [missI, HV.out, inB_true (n := (k : Int)) (lo := 0) (hi := T.zs.length - 1) (by omega)]
      have HM := Lib.hid fun W h => MissAt_any T a c k W (by omega) h
      rw [hmi] at HM
      clear hmi
      generalize missN T k = m at HX HM
      obtain ⟨x0, x1, x2, x3, x4, x5, xz⟩ := facts3 (Sr.cells 2 rfl)
      go_wp2_with fail
      refine (HM.out _ (by exact Sr.reads 3 rfl)).mono ?_
      rintro e w5 ⟨rfl, hb⟩
      have S5 := Sr.below hb
      clear Sr hb x0 x1 x2 x3 x4 x5 xz
      have c0 : w5.cell? ⟨w.heap.size + 1 + 1, k, none⟩ = some (.int .i64 (costT T k k)) := by unfold World.cell?; simp only [S5.cells 0 rfl]; exact costK_at _ k16
      have f0 : w5.frozen? ⟨w.heap.size + 1 + 1, k, none⟩ = false := by unfold World.frozen?; simp [S5.cells 0 rfl]
      have S7 := S5.setBoxAt 0 rfl k (.int .i64 m) (cost_setCell (S5.cells 0 rfl) k _) (by simp [Far, It.box, It.read]; omega) (by omega)
      rw [HX.out] at S7
      go_wp2
      go_roundw
      case rel => exact ⟨k + 1, by omega, by go_num, S7⟩
      case measure => simp [intOf]; omega
    · obtain rfl : k = T.zs.length := by omega
      have SP := (Sr.turn (l' := [It.box (w.heap.size + 1) cost0 96]) fun i hi => by
        obtain rfl := List.mem_singleton.1 hi
        simp).setRowAt (c' := costK (costT T T.zs.length)) trivial (by omega)
      have hL := Sr.cells 0 rfl
      have hS := Sr.cells 1 rfl
      have h1 := costK_one (costT T T.zs.length)
      have h2 := costK_size (costT T T.zs.length)
      obtain ⟨C, hC⟩ : ∃ C, C = costK (costT T T.zs.length) := ⟨_, rfl⟩
      rw [← hC] at SP hL h1 h2
      have HC := Lib.hid hC
      clear hC
      go_wp2_with (first
        | refine wide_load rfl (.tmp 3) 96 rfl (w.heap.size + 1 + 1) 96 C (0, 0) _ rfl hL Tryz.underlying96 rfl (by rw [sizeCost, h2]) ?_
        | refine wide_store rfl (.tmp 2) (.tmp 17) 96 rfl (w.heap.size + 1) 96 cost0 C rfl rfl hS (by rw [sizeCost, h2]) (by rw [cost0_size, h2]) h1 ?_)
      refine bodyPost_ret (v := .agg C) ?_ rfl ⟨by rw [HC.out], SP.old⟩
      have hrow := run_loadVar_row (P := Tryz.prog) (wr.setRow (w.heap.size + 1) C) (w.heap.size + 1) 96 96 C (0, 0) _ (SP.cells 0 rfl) Tryz.underlying96 rfl (by rw [sizeCost, h2])
      simp [results, Tryz.results73, asAddr, Act.put, hrow]

end Go.Proofs.YtpncpeokdcolpaaGreatDoor
end

section
namespace Go.Proofs.YtpncpeokdcolpaaGreatDoor
open Go.RowKit

theorem near_end {T : Tab} (hf : fairB T = true) {h : Nat} (hh : h < T.zs.length) : cntN (nearAt T h) T.zs.length = goN (nearAt T h) T.zs.length + 1 ∧ goN (nearAt T h) T.zs.length < T.zs.length := by
  obtain ⟨_, hfm, _⟩ := fair_parts hf
  obtain ⟨d, hd, e⟩ := free_step hh hfm
  have hlt : goN (nearAt T h) T.zs.length < T.zs.length := by
    refine Nat.lt_of_not_le fun hn => ?_
    have := goN_free (p := nearAt T h) (n := T.zs.length) (j := d) (by omega)
    unfold nearAt at this
    rw [free_away (by omega)] at this
    have := of_decide_eq_false this
    omega
  unfold cntN
  omega

set_option maxRecDepth 100000 in
set_option maxHeartbeats 4000000 in
theorem specFairMiss_any (T : Tab) (a : Option Addr) (c : Nat) (home : Int) (w : World) (hx : T.zs.length ≤ 9223372036854775807) (h1 : IntsAt w a T.zs) :
    Calls Tryz.prog 9 #[tabV T a c, .int .i64 home] w fun e w' => e = .returned (.int .i64 (fmissI T home)) ∧ Below w.heap.size w w' := by
  have S0 := tabBox c 27 h1
  cases hf : fairB T
  · go_enter Tryz.func9, Tryz.ntmps9
    go_wp2_with fail
    refine (specIsFair_any T a c _ hx (by exact S0.reads 1 rfl)).mono ?_
    rw [hf]
    rintro e w1 ⟨rfl, hb⟩
    have S1 := S0.below hb
    go_wp2
    go_ret
    exact ⟨by simp [fmissI, hf], S1.old⟩
  · obtain ⟨hp, hfm, _⟩ := fair_parts hf
    obtain ⟨_, hv, _⟩ := plain_parts hp
    obtain ⟨⟨l1, l2⟩, _⟩ := valid_facts hv
    have HFB := Lib.hid hf
    cases hi : inB home 0 (T.zs.length - 1)
    · have R : Hid (fmissI T home = -1) := Lib.hid (by simp [fmissI, hi])
      clear hf
      go_enter Tryz.func9, Tryz.ntmps9
      go_wp2_with fail
      refine (specIsFair_any T a c _ hx (by exact S0.reads 1 rfl)).mono ?_
      rw [HFB.out]
      rintro e w1 ⟨rfl, hb⟩
      have S1 := S0.below hb
      obtain ⟨x0, x1, x2, x3, x4, x5, xz⟩ := facts3 (S1.cells 0 rfl)
      go_wp2_with (first | (go_at_call 38; refine (l1In_any _ _ _ _).mono ?_; rintro e w' ⟨rfl, rfl⟩))
      go_ret
      exact ⟨by rw [R.out]; rfl, S1.old⟩
    · obtain ⟨s0, s1⟩ := inB_iff.1 hi
      obtain ⟨h, rfl⟩ : ∃ h : Nat, home = h := ⟨home.toNat, by omega⟩
      have hh : h < T.zs.length := by omega
      obtain ⟨ne1, ne2⟩ := near_end hf hh
      have R : Hid (fmissI T h = (goN (nearAt T h) T.zs.length : Nat) + 1) := Lib.hid (by simp only [fmissI, hf, hi, fmissN, Int.toNat_natCast, Bool.and_self, if_true]; rw [ne1]; rfl)
      have HPN : Hid (∀ d, d < goN (nearAt T h) T.zs.length → nearAt T h d = false) := Lib.hid fun d hd => goN_free hd
      have HPE : Hid (nearAt T h (goN (nearAt T h) T.zs.length) = true) := Lib.hid (goN_stop ne2)
      have HV := Lib.hid hv
      have HPL := Lib.hid fun (s : Nat) (hs : s < T.zs.length) hne => (plain_key hp hs hne)
      clear hf hv ne1 hp hfm
      generalize goN (nearAt T h) T.zs.length = pn at R HPN HPE ne2
      go_enter Tryz.func9, Tryz.ntmps9
      go_wp2_with fail
      refine (specIsFair_any T a c _ hx (by exact S0.reads 1 rfl)).mono ?_
      rw [HFB.out]
      rintro e w1 ⟨rfl, hb⟩
      have S1 := S0.below hb
      clear S0 hb
      obtain ⟨x0, x1, x2, x3, x4, x5, xz⟩ := facts3 (S1.cells 0 rfl)
      go_wp2_with (first | (go_at_call 38; refine (l1In_any _ _ _ _).mono ?_; rintro e w' ⟨rfl, rfl⟩))
      clear x0 x1 x2 x3 x4 x5 xz
      go_loopw [6] (fun i wr => ∃ (d : Nat), d ≤ pn ∧ i = .int .i64 d ∧ St w wr [It.box w.heap.size #[.int .i64 T.t, .int .i64 T.p, .slice a T.zs.length c] 27, It.read w.heap.size a T.zs]) (fun i _ => pn - (intOf i).toNat)
      case atStart => exact ⟨0, Nat.zero_le _, rfl, S1⟩
      case round =>
        obtain ⟨d, hd, rfl, Sr⟩ := hrel
        clear S1
        have hst := stepS_lt (T := T) l1 h d
        have hq := step_cast T h d
        have HNA : Hid (nearAt T h d = decide (awayOf T (stepS T h d : Nat) < (d : Int))) := Lib.hid rfl
        have hnd := Lib.hid (HPN.out d)
        have hne := Lib.hid fun (e : d = pn) => (show nearAt T h d = true by rw [e]; exact HPE.out)
        have hfa := Lib.hid fun (e : nth T.zs (stepS T h d) = -1) => (show awayOf T (stepS T h d : Nat) = -1 from free_away (by omega))
        have HK := Lib.hid fun hne => HPL.out (stepS T h d) hst hne
        have HAE := Lib.hid fun (h0 : 0 ≤ nth T.zs (stepS T h d)) => awayOf_yes HV.out hst rfl h0
        have HHH := Lib.hid fun (x : Int) (h0 : 0 ≤ x) (h9 : x ≤ 99) (W : World) => l1Home_any T a c x W HV.out h0 h9
        obtain ⟨x0, x1, x2, x3, x4, x5, xz⟩ := facts3 (Sr.cells 0 rfl)
        generalize stepS T h d = s at hst hq HNA hfa HK HAE
        obtain ⟨b, o, x, rfl, q, X⟩ := (Sr.reads 1 rfl).at hst
        rw [X.out] at hfa HK HAE
        generalize nearAt T h d = nr at HNA hnd hne
        have zb : b < wr.heap.size := World.block_lt_of_cell? wr _ q
        have zt : w.heap.size < wr.heap.size := Sr.sz 0 rfl
        have s0' : (0 : Int) ≤ (s : Int) := by omega
        have s1' : (s : Int) < (T.zs.length : Int) := by omega
        have ln : ((T.zs.length : Int) == 0) = false := beq_eq_false_iff_ne.2 (by omega)
        have hmix : Tryz.prog.follows .mixedOrders = true := by kernel_rfl
        have HPD : Hid (nr = true → d = pn) := Lib.hid fun e => by
          by_cases c : d < pn
          · have := hnd.out c; rw [e] at this; cases this
          · omega
        have HPD2 : Hid (nr = false → d < pn) := Lib.hid fun e => by
          refine Nat.lt_of_le_of_ne hd fun c => ?_
          have := hne.out c; rw [e] at this; cases this
        clear hnd hne
        by_cases c1 : x = -1
        · subst c1
          have ha := hfa.out rfl
          have hnr : nr = true := by rw [HNA.out, ha]; exact decide_eq_true (by omega)
          obtain rfl := HPD.out hnr
          clear hfa HK HAE HHH HNA HPD HPD2 ha
          go_wp2_with fail
          refine (wpIn_wide (n := 9)).1 ?_
          refine wpIn_region_quietR (fun w' => Below wr.heap.size wr w') hmix (by kernel_rfl) (by kernel_rfl) ((Below.refl _ _).drew) ?_
          refine wpQuietIn_step (fun _ _ _ _ => trivial) (fun K hK => ?_)
          go_simp
          refine ⟨_, fun w' hb => rfl, hK _ ?_⟩
          clear hK K
          refine wpQuietIn_step (fun _ _ _ _ => trivial) (fun K hK => ?_)
          go_simp
          refine ⟨.slice (some ⟨b, o, none⟩) T.zs.length c, fun w' hb => ?_, hK _ ?_⟩
          · have q2 := (hb.cell (p := ⟨w.heap.size, 2, none⟩) (by show w.heap.size < _; omega)).trans x2
            go_simp
          clear hK K
          refine wpQuietIn_step (fun _ _ _ _ => trivial) (fun K hK => ?_)
          go_simp
          refine ⟨_, fun w' hb => rfl, hK _ ?_⟩
          clear hK K
          refine wpQuietIn_step (fun _ _ _ _ => trivial) (fun K hK => ?_)
          go_simp
          refine ⟨_, fun w' hb => rfl, hK _ ?_⟩
          clear hK K
          refine wpQuietIn_step (fun _ _ _ _ => trivial) (fun K hK => ?_)
          go_simp
          refine ⟨.int .i64 (-1), fun w' hb => ?_, hK _ ?_⟩
          · have qq := (hb.cell (p := ⟨b, o + s, none⟩) (by show b < _; omega)).trans q
            go_simp
          clear hK K
          refine wpQuietIn_step (fun _ _ _ _ => trivial) (fun K hK => ?_)
          go_simp
          refine ⟨_, fun w' hb => rfl, hK _ ?_⟩
          clear hK K
          refine wpQuietIn_step (fun _ _ _ _ => trivial) (fun K hK => ?_)
          go_simp
          refine ⟨_, fun w' hb => rfl, hK _ ?_⟩
          clear hK K
          refine wpQuietIn_step (fun _ _ _ _ => trivial) (fun K hK => ?_)
          go_simp
          refine hK _ ?_
          clear hK K
          refine wpQuietIn_step (fun _ _ _ _ => trivial) (fun K hK => ?_)
          go_simp
          refine hK _ ?_
          clear hK K
          refine wpQuietIn_step (fun _ _ _ _ => trivial) (fun K hK => ?_)
          go_simp
          refine hK _ ?_
          clear hK K
          refine wpQuietIn_step (fun _ _ _ _ => trivial) (fun K hK => ?_)
          go_simp
          refine hK _ ?_
          clear hK K
          refine wpQuietIn_step (fun _ _ _ _ => trivial) (fun K hK => ?_)
          go_simp
          refine hK _ ?_
          clear hK K
          refine wpQuietIn_step (fun _ _ _ _ => trivial) (fun K hK => ?_)
          go_simp
          refine hK _ ?_
          clear hK K
          refine wpQuietIn_step (fun _ _ _ _ => trivial) (fun K hK => ?_)
          go_simp
          refine hK _ ?_
          clear hK K
          refine wpQuietIn_step (fun _ _ _ _ => trivial) (fun K hK => ?_)
          go_simp
          refine hK _ ?_
          clear hK K
          refine wpQuietIn_step (fun _ _ _ _ => trivial) (fun K hK => ?_)
          go_simp
          refine hK _ ?_
          clear hK K
          refine wpQuietIn_step (fun _ _ _ _ => trivial) (fun K hK => ?_)
          go_simp
          refine hK _ ?_
          clear hK K
          refine wpQuietIn_step (fun _ _ _ _ => trivial) (fun K hK => ?_)
          go_simp
          refine hK _ ?_
          clear hK K
          refine wpQuietIn_step (fun _ _ _ _ => trivial) (fun K hK => ?_)
          go_simp
          refine hK _ ?_
          clear hK K
          refine wpQuietIn_step (fun _ _ _ _ => trivial) (fun K hK => ?_)
          go_simp
          refine ⟨_, fun w' hb => rfl, hK _ ?_⟩
          clear hK K
          refine fun w10 hb => ?_
          have S9 := Sr.below hb
          clear x0 x1 x2 x3 x4 x5 xz

          go_wp2
          go_ret
          exact ⟨by rw [R.out]; go_num, S9.old⟩
        · have e1 : (x == -1) = false := beq_eq_false_iff_ne.2 c1
          obtain ⟨k0, k9⟩ := HK.out c1
          have ha := HAE.out k0
          obtain ⟨hm, HM⟩ : ∃ hm, homeI T x = hm := ⟨_, rfl⟩
          have hmb := homeI_bounds HV.out x
          have HHM := Lib.hid (HHH.out x k0 k9)
          rw [HM] at ha hmb HHM
          have HAW := fun (W : World) => l1Away_any T (some ⟨b, o, none⟩) c hm s W l1 l2 (by omega) (by omega) (by omega) (by omega)
          rw [ha] at HAW
          have HAW := Lib.hid HAW
          clear hfa HK HAE HHH HM ha
          generalize awayOf T (s : Int) = aw at HNA HAW
          by_cases c2 : aw < (d : Int)
          · have d1 : decide (aw < (d : Int)) = true := decide_eq_true c2
            obtain rfl := HPD.out (by rw [HNA.out, d1])
            clear HNA HPD HPD2
            go_wp2_with fail
            refine (wpIn_wide (n := 9)).1 ?_
            refine wpIn_region_quietR (fun w' => Below wr.heap.size wr w') hmix (by kernel_rfl) (by kernel_rfl) ((Below.refl _ _).drew) ?_
            refine wpQuietIn_step (fun _ _ _ _ => trivial) (fun K hK => ?_)
            go_simp
            refine ⟨_, fun w' hb => rfl, hK _ ?_⟩
            clear hK K
            refine wpQuietIn_step (fun _ _ _ _ => trivial) (fun K hK => ?_)
            go_simp
            refine ⟨.slice (some ⟨b, o, none⟩) T.zs.length c, fun w' hb => ?_, hK _ ?_⟩
            · have q2 := (hb.cell (p := ⟨w.heap.size, 2, none⟩) (by show w.heap.size < _; omega)).trans x2
              go_simp
            clear hK K
            refine wpQuietIn_step (fun _ _ _ _ => trivial) (fun K hK => ?_)
            go_simp
            refine ⟨_, fun w' hb => rfl, hK _ ?_⟩
            clear hK K
            refine wpQuietIn_step (fun _ _ _ _ => trivial) (fun K hK => ?_)
            go_simp
            refine ⟨_, fun w' hb => rfl, hK _ ?_⟩
            clear hK K
            refine wpQuietIn_step (fun _ _ _ _ => trivial) (fun K hK => ?_)
            go_simp
            refine ⟨.int .i64 x, fun w' hb => ?_, hK _ ?_⟩
            · have qq := (hb.cell (p := ⟨b, o + s, none⟩) (by show b < _; omega)).trans q
              go_simp
            clear hK K
            refine wpQuietIn_step (fun _ _ _ _ => trivial) (fun K hK => ?_)
            go_simp
            refine ⟨_, fun w' hb => rfl, hK _ ?_⟩
            clear hK K
            refine wpQuietIn_step (fun _ _ _ _ => trivial) (fun K hK => ?_)
            go_simp
            refine ⟨_, fun w' hb => rfl, hK _ ?_⟩
            clear hK K
            refine wpQuietIn_step (fun _ _ _ _ => trivial) (fun K hK => ?_)
            go_simp
            refine ⟨tabV T (some ⟨b, o, none⟩) c, fun w' hb => ?_, hK _ ?_⟩
            · have q0 := (hb.cell (p := ⟨w.heap.size, 0, none⟩) (by show w.heap.size < _; omega)).trans x0
              have q1 := (hb.cell (p := ⟨w.heap.size, 1, none⟩) (by show w.heap.size < _; omega)).trans x1
              have q2 := (hb.cell (p := ⟨w.heap.size, 2, none⟩) (by show w.heap.size < _; omega)).trans x2
              unfold tabV
              go_simp
            clear hK K
            refine wpQuietIn_step (fun _ _ _ _ => trivial) (fun K hK => ?_)
            go_simp
            refine ⟨tabV T (some ⟨b, o, none⟩) c, fun w' hb => ?_, hK _ ?_⟩
            · have q0 := (hb.cell (p := ⟨w.heap.size, 0, none⟩) (by show w.heap.size < _; omega)).trans x0
              have q1 := (hb.cell (p := ⟨w.heap.size, 1, none⟩) (by show w.heap.size < _; omega)).trans x1
              have q2 := (hb.cell (p := ⟨w.heap.size, 2, none⟩) (by show w.heap.size < _; omega)).trans x2
              unfold tabV
              go_simp
            clear hK K
            refine wpQuietIn_step (fun _ _ _ _ => trivial) (fun K hK => ?_)
            go_simp
            refine ⟨_, fun w' hb => rfl, hK _ ?_⟩
            clear hK K
            refine wpQuietIn_step (fun _ _ _ _ => trivial) (fun K hK => ?_)
            go_simp
            refine ⟨.slice (some ⟨b, o, none⟩) T.zs.length c, fun w' hb => ?_, hK _ ?_⟩
            · have q2 := (hb.cell (p := ⟨w.heap.size, 2, none⟩) (by show w.heap.size < _; omega)).trans x2
              go_simp
            clear hK K
            refine wpQuietIn_step (fun _ _ _ _ => trivial) (fun K hK => ?_)
            go_simp
            refine ⟨_, fun w' hb => rfl, hK _ ?_⟩
            clear hK K
            refine wpQuietIn_step (fun _ _ _ _ => trivial) (fun K hK => ?_)
            go_simp
            refine ⟨_, fun w' hb => rfl, hK _ ?_⟩
            clear hK K
            refine wpQuietIn_step (fun _ _ _ _ => trivial) (fun K hK => ?_)
            go_simp
            refine ⟨.int .i64 x, fun w' hb => ?_, hK _ ?_⟩
            · have qq := (hb.cell (p := ⟨b, o + s, none⟩) (by show b < _; omega)).trans q
              go_simp
            clear hK K
            refine wpQuietIn_step (fun _ _ _ _ => trivial) (fun K hK => ?_)
            go_simp
            refine ⟨.int .i64 hm, fun w' hb => (callsIn_wide.2 (HHM.out w')).mono ?_, hK _ ?_⟩
            · rintro e w10 ⟨rfl, hb6⟩
              exact ⟨rfl, hb.trans (hb6.mono hb.size)⟩
            clear hK K
            refine wpQuietIn_step (fun _ _ _ _ => trivial) (fun K hK => ?_)
            go_simp
            refine ⟨_, fun w' hb => rfl, hK _ ?_⟩
            clear hK K
            refine wpQuietIn_step (fun _ _ _ _ => trivial) (fun K hK => ?_)
            go_simp
            refine ⟨.int .i64 aw, fun w' hb => (callsIn_wide.2 (HAW.out w')).mono ?_, hK _ ?_⟩
            · rintro e w10 ⟨rfl, hb6⟩
              exact ⟨rfl, hb.trans (hb6.mono hb.size)⟩
            clear hK K
            refine wpQuietIn_step (fun _ _ _ _ => trivial) (fun K hK => ?_)
            go_simp
            refine ⟨_, fun w' hb => rfl, hK _ ?_⟩
            clear hK K
            refine wpQuietIn_step (fun _ _ _ _ => trivial) (fun K hK => ?_)
            go_simp
            refine ⟨_, fun w' hb => rfl, hK _ ?_⟩
            clear hK K
            refine wpQuietIn_step (fun _ _ _ _ => trivial) (fun K hK => ?_)
            go_simp
            refine ⟨_, fun w' hb => rfl, hK _ ?_⟩
            clear hK K
            refine fun w10 hb => ?_
            have S9 := Sr.below hb
            clear x0 x1 x2 x3 x4 x5 xz

            go_wp2
            go_ret
            exact ⟨by rw [R.out]; go_num, S9.old⟩
          · have d1 : decide (aw < (d : Int)) = false := decide_eq_false c2
            have hlt := HPD2.out (by rw [HNA.out, d1])
            clear HNA HPD HPD2
            go_wp2_with fail
            refine (wpIn_wide (n := 9)).1 ?_
            refine wpIn_region_quietR (fun w' => Below wr.heap.size wr w') hmix (by kernel_rfl) (by kernel_rfl) ((Below.refl _ _).drew) ?_
            refine wpQuietIn_step (fun _ _ _ _ => trivial) (fun K hK => ?_)
            go_simp
            refine ⟨_, fun w' hb => rfl, hK _ ?_⟩
            clear hK K
            refine wpQuietIn_step (fun _ _ _ _ => trivial) (fun K hK => ?_)
            go_simp
            refine ⟨.slice (some ⟨b, o, none⟩) T.zs.length c, fun w' hb => ?_, hK _ ?_⟩
            · have q2 := (hb.cell (p := ⟨w.heap.size, 2, none⟩) (by show w.heap.size < _; omega)).trans x2
              go_simp
            clear hK K
            refine wpQuietIn_step (fun _ _ _ _ => trivial) (fun K hK => ?_)
            go_simp
            refine ⟨_, fun w' hb => rfl, hK _ ?_⟩
            clear hK K
            refine wpQuietIn_step (fun _ _ _ _ => trivial) (fun K hK => ?_)
            go_simp
            refine ⟨_, fun w' hb => rfl, hK _ ?_⟩
            clear hK K
            refine wpQuietIn_step (fun _ _ _ _ => trivial) (fun K hK => ?_)
            go_simp
            refine ⟨.int .i64 x, fun w' hb => ?_, hK _ ?_⟩
            · have qq := (hb.cell (p := ⟨b, o + s, none⟩) (by show b < _; omega)).trans q
              go_simp
            clear hK K
            refine wpQuietIn_step (fun _ _ _ _ => trivial) (fun K hK => ?_)
            go_simp
            refine ⟨_, fun w' hb => rfl, hK _ ?_⟩
            clear hK K
            refine wpQuietIn_step (fun _ _ _ _ => trivial) (fun K hK => ?_)
            go_simp
            refine ⟨_, fun w' hb => rfl, hK _ ?_⟩
            clear hK K
            refine wpQuietIn_step (fun _ _ _ _ => trivial) (fun K hK => ?_)
            go_simp
            refine ⟨tabV T (some ⟨b, o, none⟩) c, fun w' hb => ?_, hK _ ?_⟩
            · have q0 := (hb.cell (p := ⟨w.heap.size, 0, none⟩) (by show w.heap.size < _; omega)).trans x0
              have q1 := (hb.cell (p := ⟨w.heap.size, 1, none⟩) (by show w.heap.size < _; omega)).trans x1
              have q2 := (hb.cell (p := ⟨w.heap.size, 2, none⟩) (by show w.heap.size < _; omega)).trans x2
              unfold tabV
              go_simp
            clear hK K
            refine wpQuietIn_step (fun _ _ _ _ => trivial) (fun K hK => ?_)
            go_simp
            refine ⟨tabV T (some ⟨b, o, none⟩) c, fun w' hb => ?_, hK _ ?_⟩
            · have q0 := (hb.cell (p := ⟨w.heap.size, 0, none⟩) (by show w.heap.size < _; omega)).trans x0
              have q1 := (hb.cell (p := ⟨w.heap.size, 1, none⟩) (by show w.heap.size < _; omega)).trans x1
              have q2 := (hb.cell (p := ⟨w.heap.size, 2, none⟩) (by show w.heap.size < _; omega)).trans x2
              unfold tabV
              go_simp
            clear hK K
            refine wpQuietIn_step (fun _ _ _ _ => trivial) (fun K hK => ?_)
            go_simp
            refine ⟨_, fun w' hb => rfl, hK _ ?_⟩
            clear hK K
            refine wpQuietIn_step (fun _ _ _ _ => trivial) (fun K hK => ?_)
            go_simp
            refine ⟨.slice (some ⟨b, o, none⟩) T.zs.length c, fun w' hb => ?_, hK _ ?_⟩
            · have q2 := (hb.cell (p := ⟨w.heap.size, 2, none⟩) (by show w.heap.size < _; omega)).trans x2
              go_simp
            clear hK K
            refine wpQuietIn_step (fun _ _ _ _ => trivial) (fun K hK => ?_)
            go_simp
            refine ⟨_, fun w' hb => rfl, hK _ ?_⟩
            clear hK K
            refine wpQuietIn_step (fun _ _ _ _ => trivial) (fun K hK => ?_)
            go_simp
            refine ⟨_, fun w' hb => rfl, hK _ ?_⟩
            clear hK K
            refine wpQuietIn_step (fun _ _ _ _ => trivial) (fun K hK => ?_)
            go_simp
            refine ⟨.int .i64 x, fun w' hb => ?_, hK _ ?_⟩
            · have qq := (hb.cell (p := ⟨b, o + s, none⟩) (by show b < _; omega)).trans q
              go_simp
            clear hK K
            refine wpQuietIn_step (fun _ _ _ _ => trivial) (fun K hK => ?_)
            go_simp
            refine ⟨.int .i64 hm, fun w' hb => (callsIn_wide.2 (HHM.out w')).mono ?_, hK _ ?_⟩
            · rintro e w10 ⟨rfl, hb6⟩
              exact ⟨rfl, hb.trans (hb6.mono hb.size)⟩
            clear hK K
            refine wpQuietIn_step (fun _ _ _ _ => trivial) (fun K hK => ?_)
            go_simp
            refine ⟨_, fun w' hb => rfl, hK _ ?_⟩
            clear hK K
            refine wpQuietIn_step (fun _ _ _ _ => trivial) (fun K hK => ?_)
            go_simp
            refine ⟨.int .i64 aw, fun w' hb => (callsIn_wide.2 (HAW.out w')).mono ?_, hK _ ?_⟩
            · rintro e w10 ⟨rfl, hb6⟩
              exact ⟨rfl, hb.trans (hb6.mono hb.size)⟩
            clear hK K
            refine wpQuietIn_step (fun _ _ _ _ => trivial) (fun K hK => ?_)
            go_simp
            refine ⟨_, fun w' hb => rfl, hK _ ?_⟩
            clear hK K
            refine wpQuietIn_step (fun _ _ _ _ => trivial) (fun K hK => ?_)
            go_simp
            refine ⟨_, fun w' hb => rfl, hK _ ?_⟩
            clear hK K
            refine wpQuietIn_step (fun _ _ _ _ => trivial) (fun K hK => ?_)
            go_simp
            refine ⟨_, fun w' hb => rfl, hK _ ?_⟩
            clear hK K
            refine fun w10 hb => ?_
            have S9 := Sr.below hb
            clear x0 x1 x2 x3 x4 x5 xz

            go_wp2
            go_roundw
            case rel => exact ⟨d + 1, by omega, by go_num, S9⟩
            case measure => simp [intOf]; omega

end Go.Proofs.YtpncpeokdcolpaaGreatDoor
end

section
namespace Go.Proofs.YtpncpeokdcolpaaGreatDoor
open Go.RowKit Go.Shelf
attribute [local go_sem] Oper.semAt_some

set_option maxRecDepth 100000 in
theorem fairMiss1_any (cb g k n0 : Nat) (d : Nat) (T : Tab) (l : List It) (w0 w : World) (hk : k < T.zs.length) (l2 : T.zs.length ≤ 16)
    (i0 : l[n0]? = some (It.box cb (laneK g T T.zs.length) 60)) (S : St w0 w l) :
    Calls Tryz.prog 47 #[.int .i64 k, .int .i64 d, .pointer (some ⟨cb, 0, none⟩)] w fun e w' => e = .returned (.bool (decide (awayOf T (k : Int) < (d : Int)))) ∧ Below w.heap.size w w' := by
  obtain ⟨_, LC, _⟩ := lane_cells (S.cells n0 i0)
  obtain ⟨_, _, e2⟩ := lzk_at T T.zs.length k hk
  have c2 := LC (k * 3 + 2) (by omega)
  rw [e2] at c2
  rw [show k * 3 + 2 + 1 = 1 + k * 3 + 2 by omega] at c2
  clear LC e2
  have k0 : (0 : Int) ≤ (k : Int) := by omega
  have k1 : (k : Int) < 16 := by omega
  generalize awayOf T (k : Int) = aw at c2 ⊢
  by_cases h : aw < (d : Int)
  · have d1 : decide (aw < (d : Int)) = true := decide_eq_true h
    rw [d1]
    go_enter Tryz.func47, Tryz.ntmps47
    go_wp2
    go_ret
    exact ⟨rfl, Below.refl _ _⟩
  · have d1 : decide (aw < (d : Int)) = false := decide_eq_false h
    rw [d1]
    go_enter Tryz.func47, Tryz.ntmps47
    go_wp2
    go_ret
    exact ⟨rfl, Below.refl _ _⟩

set_option maxRecDepth 100000 in
set_option maxHeartbeats 4000000 in
theorem FairMiss_any (T : Tab) (a : Option Addr) (c : Nat) (home : Int) (w : World) (hx : T.zs.length ≤ 9223372036854775807) (h1 : IntsAt w a T.zs) (hL : Laid w) :
    Calls Tryz.prog 11 #[tabV T a c, .int .i64 home] w fun e w' => e = .returned (.int .i64 (fmissI T home)) ∧ Below w.heap.size w w' := by
  have S0 := tabBox c 27 h1
  have hL0 := hL.below S0.old hL.pos
  cases hf : fairB T
  · go_enter Tryz.func11, Tryz.ntmps11
    go_wp2_with fail
    refine (IsFair_any T a c _ hx (by exact S0.reads 1 rfl) hL0).mono ?_
    rw [hf]
    rintro e w1 ⟨rfl, hb⟩
    have S1 := S0.below hb
    go_wp2
    go_ret
    exact ⟨by simp [fmissI, hf], S1.old⟩
  · have hv := fair_valid hf
    obtain ⟨⟨l1, l2⟩, _⟩ := valid_facts hv
    have HFB := Lib.hid hf
    cases hi : inB home 0 (T.zs.length - 1)
    · have R : Hid (fmissI T home = -1) := Lib.hid (by simp [fmissI, hi])
      clear hf
      go_enter Tryz.func11, Tryz.ntmps11
      go_wp2_with fail
      refine (IsFair_any T a c _ hx (by exact S0.reads 1 rfl) hL0).mono ?_
      rw [HFB.out]
      rintro e w1 ⟨rfl, hb⟩
      have S1 := S0.below hb
      obtain ⟨x0, x1, x2, x3, x4, x5, xz⟩ := facts3 (S1.cells 0 rfl)
      go_wp2_with fail
      refine (hasSlot_any T a c home _).mono ?_
      rw [hi]
      rintro e w2 ⟨rfl, hb⟩
      have S2 := S1.below hb
      go_wp2
      go_ret
      exact ⟨by rw [R.out]; rfl, S2.old⟩
    · obtain ⟨s0, s1⟩ := inB_iff.1 hi
      obtain ⟨h, rfl⟩ : ∃ h : Nat, home = h := ⟨home.toNat, by omega⟩
      have hh : h < T.zs.length := by omega
      have R : Hid (fmissI T h = (cntN (nearAt T h) T.zs.length : Nat)) := Lib.hid (by simp [fmissI, hf, hi, fmissN])
      have HV := Lib.hid hv
      have HI := Lib.hid hi
      clear hf hv hi
      go_enter Tryz.func11, Tryz.ntmps11
      go_wp2_with fail
      refine (IsFair_any T a c _ hx (by exact S0.reads 1 rfl) hL0).mono ?_
      rw [HFB.out]
      rintro e w1 ⟨rfl, hb⟩
      have S1 := S0.below hb
      clear S0 hb hL0
      obtain ⟨x0, x1, x2, x3, x4, x5, xz⟩ := facts3 (S1.cells 0 rfl)
      go_wp2_with fail
      refine (hasSlot_any T a c h _).mono ?_
      rw [HI.out]
      rintro e w2 ⟨rfl, hb⟩
      have S2 := S1.below hb
      clear S1 hb x0 x1 x2 x3 x4 x5 xz
      obtain ⟨x0, x1, x2, x3, x4, x5, xz⟩ := facts3 (S2.cells 0 rfl)
      go_wp2_with fail
      refine (laneOf_any T a c _ (by exact S2.reads 1 rfl) HV.out).mono ?_
      rintro e w3 ⟨g, rfl, hR, hg, hgo, hb⟩
      have S3 := ((((S2.below hb).turn (l' := []) fun i hi => by cases hi).add (It.ring w2.heap.size w3.heap.size g T) (Nat.le_refl _) ⟨hR, hgo, hg⟩).alloc laneZ 60).setRowAt (c' := laneK g T T.zs.length) (by simp [Far, It.box, It.ring]) (Nat.le_trans S2.size hb.size)
      rw [World.setRow_alloc_new] at S3
      have S5 := (S3.alloc #[.slice (some ⟨g, 0, none⟩) T.zs.length T.zs.length] 52).alloc #[.int .i64 h] 3
      simp only [World.size_alloc] at S5
      have q0 := (lane_cells (S3.cells 0 rfl)).1
      clear S2 hb hR x0 x1 x2 x3 x4 x5 xz
      have V := Lib.hid (visitsUpTo_any 47 w3.heap.size (w3.heap.size + 1) (w3.heap.size + 1 + 1) w2.heap.size w3.heap.size g h 1 0 3 T (nearAt T h) _ w _ l1 l2 hh rfl rfl rfl S5 (enters_of Tryz.func47 (by kernel_rfl) rfl)
        (fun d W hd hW => fairMiss1_any w3.heap.size g (stepS T h d) 2 d T _ w W (stepS_lt l1 h d) l2 rfl hW))
      clear S3 S5
      dsimp only
      apply_assumption
      refine wide_alloc rfl 60 rfl laneZ laneZero ?_
      refine wide_store rfl (.tmp 5) (.tmp 16) 60 rfl w3.heap.size 60 laneZ (laneK g T T.zs.length) rfl rfl (heap_alloc_last _ _) (by rw [laneSize, laneK_size]) (by rw [laneZ_size, laneK_size]) (laneK_one g T T.zs.length) ?_
      rw [World.setRow_alloc_new]
      go_wp2_with (first | (go_at_call 46; refine (ringAround_any _ _ _ _ _).mono ?_; rintro e w' ⟨rfl, rfl⟩))
      refine V.out.mono ?_
      rintro e w5 ⟨rfl, S9⟩
      go_wp2
      go_ret
      exact ⟨by rw [R.out]; rfl, S9.old⟩

end Go.Proofs.YtpncpeokdcolpaaGreatDoor
end

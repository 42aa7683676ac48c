/-
  visitsUpTo: an iterator is handed a closure that counts.
-/
import Derived.Test.YtpncpeokdcolpaaGreatDoorMath
import Derived.Test.YtpncpeokdcolpaaGreatDoorAround
import Derived.Test.YtpncpeokdcolpaaGreatDoorLook
import Derived.Test.YtpncpeokdcolpaaGreatDoorWay
import Derived.Test.YtpncpeokdcolpaaGreatDoorAway
namespace Go.Proofs.YtpncpeokdcolpaaGreatDoor
open Go.RowKit Go.Shelf
attribute [local go_sem] Oper.semAt_some

/-- A ring in memory. -/
def It.ring (lo hi g : Nat) (T : Tab) : It where
  lo := lo
  hi := hi
  P := fun w => RingAt w g T ∧ lo ≤ g ∧ g < hi
  loc := fun w _ _ _ h hp => ⟨fun i hi' => ⟨(World.cell?_of_block (w := w) (a := ⟨g, i * 2, none⟩) (h g hp.2.1 hp.2.2)).trans (hp.1 i hi').1, (World.cell?_of_block (w := w) (a := ⟨g, i * 2 + 1, none⟩) (h g hp.2.1 hp.2.2)).trans (hp.1 i hi').2⟩, hp.2⟩
theorem St.ringAt {w0 w : World} {l : List It} {lo hi g : Nat} {T : Tab} (h : St w0 w l) (n : Nat) (hi' : l[n]? = some (It.ring lo hi g T)) : RingAt w g T := (h.get n hi').1
theorem far_of {i : It} {l : List It} (h : ∀ j ∈ l, j.hi ≤ i.lo ∨ i.hi ≤ j.lo) : Far i l := by
  induction l with
  | nil => trivial
  | cons x l ih => exact ⟨h x (List.mem_cons_self ..), ih fun j hj => h j (List.mem_cons_of_mem _ hj)⟩
theorem far_new {w0 w : World} {l : List It} (h : St w0 w l) {b : Nat} (hb : w.heap.size ≤ b) (c : Array Value) (t : TypeId) : Far (It.box b c t) l :=
  far_of fun j hj => .inl (Nat.le_trans (h.all j hj).1 hb)

/-- What ends a search. -/
abbrev endsF (E cb : Nat) : Value := .func (.func E) #[] #[.pointer (some ⟨cb, 0, none⟩)]

set_option maxRecDepth 100000 in
set_option maxHeartbeats 1000000 in
theorem upTo1_any (E cb vb fb k : Nat) (slot x hm : Int) (b : Bool) (l : List It) (w0 w : World) (hk : k ≤ 1000) (hlo : w0.heap.size ≤ vb)
    (S : St w0 w (It.box vb #[.int .i64 k] 3 :: It.box fb #[endsF E cb] 66 :: l)) (hf : Far (It.box vb #[.int .i64 k] 3) (It.box fb #[endsF E cb] 66 :: l))
    (hEnt : Enters Tryz.prog E) (hE : ∀ W, St w0 W l → Calls Tryz.prog E #[.int .i64 slot, .int .i64 k, .pointer (some ⟨cb, 0, none⟩)] W fun e w' => e = .returned (.bool b) ∧ Below W.heap.size W w') :
    Calls Tryz.prog 92 #[.int .i64 slot, .agg #[.int .i64 x, .int .i64 hm], .pointer (some ⟨vb, 0, none⟩), .pointer (some ⟨fb, 0, none⟩)] w fun e w' =>
      e = .returned (.bool (!b)) ∧ St w0 w' (It.box vb #[.int .i64 (k + 1 : Nat)] 3 :: It.box fb #[endsF E cb] 66 :: l) := by
  have S0 := S.alloc #[.int .i64 x, .int .i64 hm] 55
  obtain ⟨v0, v1, vz⟩ := facts1 (S0.cells 1 rfl)
  have S1 := S0.setBoxAt 1 rfl (c' := #[.int .i64 ((k : Int) + 1)]) 0 (.int .i64 ((k : Int) + 1)) (setCell_at (S0.cells 1 rfl) 0 _) ⟨.inr (Nat.lt_of_lt_of_le (Array.getElem?_eq_some_iff.1 (S.cells 0 rfl)).1 (Nat.le_refl _)), hf⟩ hlo
  obtain ⟨f0, f1, fz⟩ := facts1 (S1.cells 2 rfl)
  go_enter Tryz.func92, Tryz.ntmps92
  go_wp2_with fail
  rw [hEnt, Oper.upon_enter]
  refine (hE _ (S1.turn fun i hi => by
    simp only [List.set_cons_succ, List.set_cons_zero, List.mem_cons]
    exact .inr (.inr (.inr hi)))).mono ?_
  rintro e w1 ⟨rfl, hb⟩
  have S2 := (S1.below hb).turn (l' := It.box vb #[.int .i64 (k + 1 : Nat)] 3 :: It.box fb #[endsF E cb] 66 :: l) fun i hi => by
    simp only [List.set_cons_succ, List.set_cons_zero, List.mem_cons] at hi ⊢
    exact .inr hi
  go_wp2
  go_ret
  exact ⟨rfl, S2⟩


set_option maxRecDepth 100000 in
set_option maxHeartbeats 2000000 in
/-- The iterator around a ring, when it is called with what counts. -/
theorem aroundC_any (E cb vb fb B1 B2 lo hi g h n1 n2 n3 : Nat) (T : Tab) (f : Nat → Bool) (l : List It) (w0 w : World) (l1 : 1 ≤ T.zs.length) (l2 : T.zs.length ≤ 16) (hh : h < T.zs.length) (hlo : w0.heap.size ≤ vb)
    (i1 : l[n1]? = some (It.box B1 #[.slice (some ⟨g, 0, none⟩) T.zs.length T.zs.length] 52)) (i2 : l[n2]? = some (It.box B2 #[.int .i64 h] 3)) (i3 : l[n3]? = some (It.ring lo hi g T))
    (hf : ∀ k : Nat, Far (It.box vb #[.int .i64 k] 3) (It.box fb #[endsF E cb] 66 :: l))
    (S : St w0 w (It.box vb #[.int .i64 (0 : Nat)] 3 :: It.box fb #[endsF E cb] 66 :: l))
    (hEnt : Enters Tryz.prog E) (hE : ∀ d W, d < T.zs.length → St w0 W l → Calls Tryz.prog E #[.int .i64 (stepS T h d : Nat), .int .i64 d, .pointer (some ⟨cb, 0, none⟩)] W fun e w' => e = .returned (.bool (f d)) ∧ Below W.heap.size W w') :
    Calls Tryz.prog 93 #[.func (.func 92) #[] #[.pointer (some ⟨vb, 0, none⟩), .pointer (some ⟨fb, 0, none⟩)], .pointer (some ⟨B1, 0, none⟩), .pointer (some ⟨B2, 0, none⟩)] w fun e w' =>
      (∃ v, e = .returned v) ∧ St w0 w' (It.box vb #[.int .i64 (cntN f T.zs.length : Nat)] 3 :: It.box fb #[endsF E cb] 66 :: l) := by
  obtain ⟨v0, v1, vz⟩ := facts1 (S.cells 0 rfl)
  obtain ⟨c0, c1, cz⟩ := facts1 (S.cells (n1 + 2) i1)
  have HC : Hid (∀ k, k < T.zs.length → (∀ j, j < k → f j = false) → f k = true → cntN f T.zs.length = k + 1) := Lib.hid fun k hk h1 h2 => cntN_stop hk h1 h2
  have HA : Hid ((∀ j, j < T.zs.length → f j = false) → cntN f T.zs.length = T.zs.length) := Lib.hid fun h => cntN_all h
  generalize cntN f T.zs.length = cn at HC HA
  go_enter Tryz.func93, Tryz.ntmps93
  go_wp2_with fail
  clear v0 v1 vz c0 c1 cz
  go_loopw [8] (fun i wr => ∃ d : Nat, d ≤ T.zs.length ∧ i = .int .i64 d ∧ Hid (∀ j, j < d → f j = false) ∧ St w0 wr (It.box vb #[.int .i64 d] 3 :: It.box fb #[endsF E cb] 66 :: l)) (fun i _ => T.zs.length - (intOf i).toNat)
  case atStart => exact ⟨0, Nat.zero_le _, rfl, Lib.hid fun j hj => by omega, S⟩
  case round =>
    obtain ⟨d, hd, rfl, HF, Sr⟩ := hrel
    clear S
    by_cases hlt : d < T.zs.length
    · obtain ⟨c0, c1, cz⟩ := facts1 (Sr.cells (n1 + 2) i1)
      obtain ⟨b0, b1, bz⟩ := facts1 (Sr.cells (n2 + 2) i2)
      have hkl := stepS_lt (T := T) l1 h d
      obtain ⟨r0, r1⟩ := (Sr.ringAt (n3 + 2) i3) _ hkl
      have HS := Lib.hid (step_cast T h d)
      have HU := Lib.hid (fun (x hm : Int) => upTo1_any E cb vb fb d (stepS T h d : Nat) x hm (f d) l w0 wr (by omega) hlo Sr (hf d) hEnt (fun W hW => hE d W hlt hW))
      generalize stepS T h d = kk at hkl r0 r1 HS HU
      generalize nth T.zs kk = x at r0 r1
      generalize homeT T x = hm at r1
      have HST := Lib.hid fun (h1 : f d = false) => stop_step HF.out h1
      have hcd := HC.out d hlt HF.out
      cases hfd : f d
      · rw [hfd] at HU
        have HF2 := Lib.hid (HST.out hfd)
        go_wp2_with (first
          | (go_at_call 94; refine (wrap_any _ _ _ _ _ l1 l2 (by omega) (by omega)).mono ?_; rintro e w' ⟨rfl, rfl⟩; rw [HS.out])
          | (go_at_call 92; refine (HU.out x hm).mono ?_; rintro e w2 ⟨rfl, S2⟩))
        go_roundw
        case rel => exact ⟨d + 1, by omega, by go_num, HF2, S2⟩
        case measure => simp [intOf]; omega
      · rw [hfd] at HU
        have HE : Hid (cn = d + 1) := Lib.hid (hcd hfd)
        go_wp2_with (first
          | (go_at_call 94; refine (wrap_any _ _ _ _ _ l1 l2 (by omega) (by omega)).mono ?_; rintro e w' ⟨rfl, rfl⟩; rw [HS.out])
          | (go_at_call 92; refine (HU.out x hm).mono ?_; rintro e w2 ⟨rfl, S2⟩))
        refine bodyPost_ret (results_none rfl _ _ _) rfl ?_
        exact ⟨⟨_, rfl⟩, by rw [HE.out]; exact S2⟩
    · obtain rfl : d = T.zs.length := by omega
      have HE : Hid (cn = T.zs.length) := Lib.hid (HA.out HF.out)
      go_wp2
      go_end0
      exact ⟨⟨_, rfl⟩, by rw [HE.out]; exact Sr⟩

set_option maxRecDepth 100000 in
set_option maxHeartbeats 1000000 in
theorem visitsUpTo_any (E cb B1 B2 lo hi g h n1 n2 n3 : Nat) (T : Tab) (f : Nat → Bool) (l : List It) (w0 w : World) (l1 : 1 ≤ T.zs.length) (l2 : T.zs.length ≤ 16) (hh : h < T.zs.length)
    (i1 : l[n1]? = some (It.box B1 #[.slice (some ⟨g, 0, none⟩) T.zs.length T.zs.length] 52)) (i2 : l[n2]? = some (It.box B2 #[.int .i64 h] 3)) (i3 : l[n3]? = some (It.ring lo hi g T))
    (S : St w0 w l)
    (hEnt : Enters Tryz.prog E) (hE : ∀ d W, d < T.zs.length → St w0 W l → Calls Tryz.prog E #[.int .i64 (stepS T h d : Nat), .int .i64 d, .pointer (some ⟨cb, 0, none⟩)] W fun e w' => e = .returned (.bool (f d)) ∧ Below W.heap.size W w') :
    Calls Tryz.prog 45 #[.func (.func 93) #[] #[.pointer (some ⟨B1, 0, none⟩), .pointer (some ⟨B2, 0, none⟩)], endsF E cb] w fun e w' =>
      e = .returned (.int .i64 (cntN f T.zs.length : Nat)) ∧ St w0 w' l := by
  have S0 := (S.alloc #[endsF E cb] 66).alloc #[.int .i64 (0 : Nat)] 3
  rw [World.size_alloc] at S0
  have hF : ∀ k : Nat, Far (It.box (w.heap.size + 1) #[.int .i64 k] 3) (It.box w.heap.size #[endsF E cb] 66 :: l) := fun k => far_of fun j hj => by
    rcases List.mem_cons.1 hj with rfl | hj
    · exact .inl (Nat.le_refl _)
    · exact .inl (Nat.le_trans (S.all j hj).1 (Nat.le_succ _))
  have HAR := Lib.hid (aroundC_any E cb (w.heap.size + 1) w.heap.size B1 B2 lo hi g h n1 n2 n3 T f l w0 _ l1 l2 hh (Nat.le_trans S.size (Nat.le_succ _)) i1 i2 i3 hF S0 hEnt hE)
  obtain ⟨v0, v1, vz⟩ := facts1 (S0.cells 0 rfl)
  obtain ⟨f0, f1, fz⟩ := facts1 (S0.cells 1 rfl)
  go_enter Tryz.func45, Tryz.ntmps45
  go_wp2_with fail
  clear v0 v1 vz f0 f1 fz
  refine HAR.out.mono ?_
  rintro e w1 ⟨⟨v, rfl⟩, S1⟩
  obtain ⟨v0, v1, vz⟩ := facts1 (S1.cells 0 rfl)
  go_wp2
  go_ret
  exact ⟨rfl, S1.turn fun i hi => List.mem_cons_of_mem _ (List.mem_cons_of_mem _ hi)⟩

end Go.Proofs.YtpncpeokdcolpaaGreatDoor

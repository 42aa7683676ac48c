/-
  RunAt of the model.
-/
import Derived.Test.YtpbffdjiijpigaaRunsOf
import Derived.Test.YtpbffdjiijpigaaAway
namespace Go.Proofs.Ytpbffdjiijpigaa
open Go.RowKit

theorem cellsR_at {rs : List (Nat × Nat)} {j : Nat} {x y : Nat} (h : rs[j]? = some (x, y)) : (cellsR rs)[j * 2]? = some (.int .i64 x) ∧ (cellsR rs)[j * 2 + 1]? = some (.int .i64 y) := by
  induction rs generalizing j with
  | nil => simp at h
  | cons r rs ih =>
    have e : cellsR (r :: rs) = .int .i64 r.1 :: .int .i64 r.2 :: cellsR rs := by simp [cellsR]
    rw [e]
    cases j with
    | zero => simp at h; subst h; simp
    | succ j =>
      have h2 := ih (j := j) (by simpa using h)
      rw [show (j + 1) * 2 = j * 2 + 1 + 1 by omega]
      simpa using h2

theorem runs_at {w : World} {base : Nat} {e : TypeId} {a : Option Addr} {n c : Nat} {rs : List (Nat × Nat)} (h : w.ownsRow base e 2 (.slice a n c) n (cellsR rs)) {j x y : Nat} (hj : j < n) (hx : rs[j]? = some (x, y)) :
    ∃ g, a = some ⟨g, 0, none⟩ ∧ w.cell? ⟨g, j * 2, none⟩ = some (.int .i64 x) ∧ w.cell? ⟨g, j * 2 + 1, none⟩ = some (.int .i64 y) := by
  rcases h.2 with ⟨hv, h0⟩ | ⟨g, cap, cur, hv, hg, hh, _, _, _, ht⟩
  · omega
  · cases hv
    obtain ⟨c1, c2⟩ := cellsR_at hx
    have key : ∀ (i : Nat) (v : Value), i < n * 2 → (cellsR rs)[i]? = some v → cur[i]? = some v := by
      intro i v hi hv
      have h1 : (cur.toList.take (n * 2))[i]? = (cellsR rs)[i]? := by rw [ht]
      rw [List.getElem?_take, if_pos hi, hv] at h1
      simpa using h1
    exact ⟨g, rfl, by simp [World.cell?, hh, key _ _ (by omega) c1], by simp [World.cell?, hh, key _ _ (by omega) c2]⟩

/-- RunAt of the document. -/
def runAt (T : Tab) (slot : Int) : Option (Nat × Nat) := if validB T && inB slot 0 (T.zs.length - 1) then (runsL T).find? (fun r => decide ((slot - (r.1 : Int)) % T.zs.length < (r.2 : Int))) else none

theorem runs_lt {T : Tab} (hn : 1 ≤ T.zs.length) {r : Nat × Nat} (h : r ∈ runsL T) : r.1 < T.zs.length ∧ r.2 ≤ T.zs.length := by
  unfold runsL at h
  split at h
  · simp at h; subst h; exact ⟨by show 0 < _; omega, Nat.le_refl _⟩
  · unfold runsTo at h
    obtain ⟨i, hi, rfl⟩ := List.mem_map.1 h
    have := (List.mem_filter.1 hi).1
    exact ⟨by simpa using this, goN_le _ _⟩

theorem runs_len {T : Tab} (hn : 1 ≤ T.zs.length) : (runsL T).length ≤ T.zs.length := by
  unfold runsL
  split
  · simpa using hn
  · exact runsTo_len _ _

theorem find_hit {α : Type} {p : α → Bool} {l : List α} {j : Nat} {x : α} (hf : ∀ i y, i < j → l[i]? = some y → p y = false) (hx : l[j]? = some x) (hp : p x = true) : l.find? p = some x := by
  induction l generalizing j with
  | nil => simp at hx
  | cons z l ih =>
    cases j with
    | zero => simp at hx; subst hx; simp [hp]
    | succ j =>
      have h0 := hf 0 z (Nat.succ_pos j) rfl
      rw [List.find?_cons_of_neg (by simp [h0])]
      exact ih (j := j) (fun i y hi hy => hf (i + 1) y (by omega) (by simpa using hy)) (by simpa using hx)

theorem find_miss {α : Type} {p : α → Bool} {l : List α} (hf : ∀ i y, i < l.length → l[i]? = some y → p y = false) : l.find? p = none := by
  rw [List.find?_eq_none]
  intro x hx
  obtain ⟨i, hi⟩ := List.getElem?_of_mem hx
  simp [hf i x (List.getElem?_eq_some_iff.1 hi).1 hi]

theorem ownsRow_below {w w' : World} {base : Nat} {e : TypeId} {size : Nat} {v : Value} {n : Nat} {xs : List Value} (h : w.ownsRow base e size v n xs) (hb : Below w.heap.size w w') : w'.ownsRow base e size v n xs := by
  refine ⟨h.1, ?_⟩
  rcases h.2 with h2 | ⟨g, cap, cur, hv, hg, hh, rest⟩
  · exact .inl h2
  · exact .inr ⟨g, cap, cur, hv, hg, (hb.block g (Array.getElem?_eq_some_iff.1 hh).1).trans hh, rest⟩

/-- What RunAt answers. -/
def runV (o : Option (Nat × Nat)) : Value := .tuple #[.agg #[.int .i64 (o.getD (0, 0)).1, .int .i64 (o.getD (0, 0)).2], .bool o.isSome]

set_option maxHeartbeats 4000000 in
theorem specRunAt_any (T : Tab) (a : Option Addr) (c : Nat) (slot : Int) (w : World) (hx : T.zs.length ≤ 9223372036854775807) (h1 : IntsAt w a T.zs) :
    Calls Try.prog 19 #[tabV T a c, .int .i64 slot] w fun e w' => e = .returned (runV (runAt T slot)) ∧ Below w.heap.size w w' := by
  have S0 := (((St.start w).read h1).alloc #[.int .i64 T.t, .int .i64 T.p, .slice a T.zs.length c] 29).alloc #[.int .i64 0, .int .i64 0] 37
  rw [World.size_alloc] at S0
  cases hv : validB T
  · have R : Hid (runAt T slot = none) := Lib.hid (by simp [runAt, hv])
    obtain ⟨x0, x1, x2, x3, x4, x5, xz⟩ := facts3 (S0.cells 1 rfl)
    go_enter Try.func19, Try.ntmps19
    go_wp2_with fail
    refine (specTableValid_any T a c _ hx (by exact S0.reads 2 rfl)).mono ?_
    rw [hv]
    rintro e w1 ⟨rfl, hb⟩
    have S1 := S0.below hb
    clear x0 x1 x2 x3 x4 x5 xz
    obtain ⟨y0, y1, y2, y3, yz⟩ := facts2 (S1.cells 0 rfl)
    go_wp2
    refine bodyPost_ret (v := runV none) (by simp [results, Try.results19, go_sem, y0, y1, runV]) rfl ⟨by rw [R.out], ?_⟩
    exact (S1.old.setCell (p := ⟨w.heap.size + 1, 0, none⟩) (by show _ ≤ w.heap.size + 1; omega) _).setCell (p := ⟨w.heap.size + 1, 1, none⟩) (by show _ ≤ w.heap.size + 1; omega) _
  · obtain ⟨⟨l1, l2⟩, _⟩ := valid_facts hv
    cases hi : inB slot 0 (T.zs.length - 1)
    · have R : Hid (runAt T slot = none) := Lib.hid (by simp [runAt, hi])
      obtain ⟨x0, x1, x2, x3, x4, x5, xz⟩ := facts3 (S0.cells 1 rfl)
      go_enter Try.func19, Try.ntmps19
      go_wp2_with fail
      refine (specTableValid_any T a c _ hx (by exact S0.reads 2 rfl)).mono ?_
      rw [hv]
      rintro e w1 ⟨rfl, hb⟩
      have S1 := S0.below hb
      clear x0 x1 x2 x3 x4 x5 xz
      obtain ⟨x0, x1, x2, x3, x4, x5, xz⟩ := facts3 (S1.cells 1 rfl)
      obtain ⟨y0, y1, y2, y3, yz⟩ := facts2 (S1.cells 0 rfl)
      go_wp2_with (first | (go_at_call 44; refine (l1In_any _ _ _ _).mono ?_; rintro e w' ⟨rfl, rfl⟩))
      refine bodyPost_ret (v := runV none) (by simp [results, Try.results19, go_sem, y0, y1, runV]) rfl ⟨by rw [R.out], ?_⟩
      exact (S1.old.setCell (p := ⟨w.heap.size + 1, 0, none⟩) (by show _ ≤ w.heap.size + 1; omega) _).setCell (p := ⟨w.heap.size + 1, 1, none⟩) (by show _ ≤ w.heap.size + 1; omega) _
    · obtain ⟨s0, s1⟩ := inB_iff.1 hi
      have HQ : Hid (runAt T slot = (runsL T).find? (fun r => decide ((slot - (r.1 : Int)) % T.zs.length < (r.2 : Int)))) := Lib.hid (by simp [runAt, hv, hi])
      have HLT : Hid (∀ r ∈ runsL T, r.1 < T.zs.length ∧ r.2 ≤ T.zs.length) := Lib.hid fun r h => runs_lt l1 h
      have hrl := runs_len l1
      obtain ⟨x0, x1, x2, x3, x4, x5, xz⟩ := facts3 (S0.cells 1 rfl)
      go_enter Try.func19, Try.ntmps19
      go_wp2_with fail
      refine (specTableValid_any T a c _ hx (by exact S0.reads 2 rfl)).mono ?_
      rw [hv]
      rintro e w1 ⟨rfl, hb⟩
      have S1 := S0.below hb
      clear x0 x1 x2 x3 x4 x5 xz S0 hb
      obtain ⟨x0, x1, x2, x3, x4, x5, xz⟩ := facts3 (S1.cells 1 rfl)
      go_wp2_with (first | (go_at_call 44; refine (l1In_any _ _ _ _).mono ?_; rintro e w' ⟨rfl, rfl⟩))
      refine (l2Runs_any T a c _ hv (by exact S1.reads 2 rfl)).mono ?_
      rintro e w2 ⟨a2, c2, rfl, ho, hb⟩
      have S2 := S1.below hb
      have HO := Lib.hid ho
      clear x0 x1 x2 x3 x4 x5 xz S1 hb ho
      generalize runsL T = rs at HQ HLT hrl HO
      obtain ⟨n, hn⟩ : ∃ n, rs.length = n := ⟨_, rfl⟩
      rw [hn] at HO hrl
      go_wp2_with fail
      go_loopw [24] (fun i wr => ∃ j : Nat, j ≤ n ∧ i = .int .i64 j ∧ Hid (∀ k r, k < j → rs[k]? = some r → decide ((slot - (r.1 : Int)) % T.zs.length < (r.2 : Int)) = false) ∧ Hid (wr.ownsRow (w1.heap.size + 1) 37 2 (.slice a2 n c2) n (cellsR rs)) ∧
          St w wr [It.box (w.heap.size + 1) #[.int .i64 0, .int .i64 0] 37, It.box w.heap.size #[.int .i64 T.t, .int .i64 T.p, .slice a T.zs.length c] 29, It.read w.heap.size a T.zs]) (fun i _ => n - (intOf i).toNat)
      case atStart => exact ⟨0, Nat.zero_le _, rfl, Lib.hid (fun k r hk => by omega), HO, S2⟩
      case round =>
        obtain ⟨j, hj, rfl, HF, HR, Sr⟩ := hrel
        clear S2 HO
        obtain ⟨x0, x1, x2, x3, x4, x5, xz⟩ := facts3 (Sr.cells 1 rfl)
        obtain ⟨y0, y1, y2, y3, yz⟩ := facts2 (Sr.cells 0 rfl)
        by_cases hlt : j < n
        · obtain ⟨⟨p, q⟩, hpq⟩ : ∃ r, rs[j]? = some r := ⟨_, List.getElem?_eq_getElem (by rw [hn]; exact hlt)⟩
          obtain ⟨hp, hq⟩ := HLT.out _ (List.mem_of_getElem? hpq)
          simp only at hp hq
          obtain ⟨g, rfl, q1, q2⟩ := runs_at HR.out hlt hpq
          have HPQ := Lib.hid hpq
          have S3 := Sr.alloc #[.int .i64 p, .int .i64 q] 37
          have R3 := Lib.hid (HR.out.alloc (.cells #[.int .i64 p, .int .i64 q] 37))
          clear hpq
          go_wp2_with fail
          clear x0 x1 x2 x3 x4 x5 xz y0 y1 y2 y3 yz q1 q2
          have R3D := Lib.hid R3.out.drew
          have S3D := S3.drew
          obtain ⟨z0, z1, z2, z3, zz⟩ := facts2 (S3.cells 0 rfl)
          obtain ⟨x0, x1, x2, x3, x4, x5, xz⟩ := facts3 (S3.cells 2 rfl)
          go_region_held3 (fun w' => w'.cell? ⟨wr.heap.size, 0, none⟩ = some (.int .i64 p) ∧ w'.cell? ⟨wr.heap.size, 1, none⟩ = some (.int .i64 q) ∧ w'.cell? ⟨w.heap.size, 0, none⟩ = some (.int .i64 T.t) ∧ w'.cell? ⟨w.heap.size, 1, none⟩ = some (.int .i64 T.p) ∧ w'.cell? ⟨w.heap.size, 2, none⟩ = some (.slice a T.zs.length c))
            (first
              | exact ⟨z0, z1, x0, x1, x2⟩
              | exact ⟨(facts2 (S7.cells 0 rfl)).1, (facts2 (S7.cells 0 rfl)).2.1, (facts3 (S7.cells 2 rfl)).1, (facts3 (S7.cells 2 rfl)).2.1, (facts3 (S7.cells 2 rfl)).2.2.1⟩)
            (first
              | (go_at_call 45; refine (l1Away_any T a c p slot _ l1 l2 (by omega) (by omega) s0 (by omega)).mono ?_; rintro e w7 ⟨rfl, hb7⟩; have S7 := S3D.below hb7; have R7 := Lib.hid (ownsRow_below R3D.out hb7)))
          have S8 : St w w7 [It.box (w.heap.size + 1) #[.int .i64 0, .int .i64 0] 37, It.box w.heap.size #[.int .i64 T.t, .int .i64 T.p, .slice a T.zs.length c] 29, It.read w.heap.size a T.zs] := S7.turn fun i hi => List.mem_cons_of_mem _ hi
          clear x0 x1 x2 x3 x4 x5 xz z0 z1 z2 z3 zz S3 S3D R3 R3D HR Sr
          obtain ⟨z0, z1, z2, z3, zz⟩ := facts2 (S7.cells 0 rfl)
          obtain ⟨y0, y1, y2, y3, yz⟩ := facts2 (S8.cells 0 rfl)
          cases hd : decide ((slot - (p : Int)) % (T.zs.length : Int) < (q : Int))
          · have HF2 : Hid (∀ k r, k < j + 1 → rs[k]? = some r → decide ((slot - (r.1 : Int)) % T.zs.length < (r.2 : Int)) = false) := Lib.hid (fun k r hk hr => by
              rcases Nat.lt_succ_iff_lt_or_eq.1 hk with h | rfl
              · exact HF.out k r h hr
              · rw [HPQ.out] at hr; cases hr; exact hd)
            go_wp2
            go_roundw
            case rel => exact ⟨j + 1, by omega, by go_num, HF2, R7, S8⟩
            case measure => simp [intOf]; omega
          · have R : Hid (runAt T slot = some (p, q)) := Lib.hid (by rw [HQ.out]; exact find_hit (fun i y hi hy => HF.out i y hi hy) HPQ.out hd)
            go_wp2
            refine bodyPost_ret (v := runV (some (p, q))) (by simp [results, Try.results19, go_sem, y0, y1, runV]) rfl ⟨by rw [R.out], ?_⟩
            exact (S8.old.setCell (p := ⟨w.heap.size + 1, 0, none⟩) (by show _ ≤ w.heap.size + 1; omega) _).setCell (p := ⟨w.heap.size + 1, 1, none⟩) (by show _ ≤ w.heap.size + 1; omega) _
        · have R : Hid (runAt T slot = none) := Lib.hid (by rw [HQ.out]; exact find_miss (fun i y hi hy => HF.out i y (by omega) hy))
          go_wp2
          refine bodyPost_ret (v := runV none) (by simp [results, Try.results19, go_sem, y0, y1, runV]) rfl ⟨by rw [R.out], ?_⟩
          exact (Sr.old.setCell (p := ⟨w.heap.size + 1, 0, none⟩) (by show _ ≤ w.heap.size + 1; omega) _).setCell (p := ⟨w.heap.size + 1, 1, none⟩) (by show _ ≤ w.heap.size + 1; omega) _

end Go.Proofs.Ytpbffdjiijpigaa

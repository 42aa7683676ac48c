/-
  A region that draws its order, whose operations and callees keep a class of worlds, walked once in the order of the text; in a round too.
-/
import Derived.Sort.QuietThIn
import Derived.Sort.QuietTacIn
import Derived.TacticsIn
import Derived.Test.YtpncpeokdcolpaaBase
namespace Go.Proofs.Ytpncpeokdcolpaa
open Go.RowKit
section
variable {F : Fence} {n : Nat} {P : Program} {ops : Array Oper} {md : Region.Mode} {C : World → Prop}

/-- No operation of a region puts a call off. -/
def noDefer (ops : Array Oper) : Bool := ops.all fun o => match o.op with | .defer _ => false | _ => true
theorem noDefer_at {ops : Array Oper} (h : noDefer ops = true) {i : Nat} {o : Oper} (hi : ops[i]? = some o) : ∀ c, o.op ≠ .defer c := fun c e => by
  unfold noDefer at h
  have := Array.all_eq_true_iff_forall_mem.1 h o (Array.mem_of_getElem? hi)
  rw [e] at this
  cases this

theorem wpIn_of_quietR {o : Oper} {a : Act} {K : Act → Prop} {K' : Act → World → Prop} {Q' : Exit → Act → World → Prop} {w : World} (hd : ∀ c, o.op ≠ .defer c) (hw : C w) (h : ∀ a w', C w' → K a → K' a w')
    (ha : o.askedIn F P a C) (hh : o.quietIn F n P a C K) : o.wpIn F n P a w K' Q' := by
  obtain ⟨v, h1, h2⟩ := hh
  have h3 := h1 w hw
  unfold Oper.quietAtIn at h3
  unfold Oper.wpIn
  refine ⟨ha w hw, ?_⟩
  rw [Oper.semAt_eq _ _ _ hd]
  generalize (execOp a.eval o).run P w = r at *
  cases r with
  | ok x w' =>
    cases x <;> simp only [Oper.quietUponIn] at h3 <;> simp only [Oper.uponIn]
    case value u =>
      obtain ⟨e1, e2⟩ := h3
      rw [e1, e2]
      exact h _ _ hw h2
    case skip =>
      obtain ⟨e1, e2⟩ := h3
      rw [e1, ← e2]
      exact h _ _ hw h2
    case enter f args =>
      obtain ⟨e1, hd, hc⟩ := h3
      rw [e1]
      exact ⟨hd, hc.mono fun e w'' ⟨he, hw''⟩ => by subst he; exact h _ _ hw'' h2⟩
  | halt x w' => simp only [Oper.quietUponIn] at h3

theorem wpOpIn_of_qOpInR (hnd : noDefer ops = true) {i : Nat} {a : Act} {K : Act → Prop} {K' : Act → World → Prop} {Q' : Exit → Act → World → Prop} {w : World} (hC : C w) (h : ∀ a w', C w' → K a → K' a w')
    (hh : qOpIn F n P ops C i K a) : wpOpIn F n P ops Q' i K' a w := by
  unfold qOpIn at hh
  unfold wpOpIn
  split
  · rename_i ho; simp only [ho] at hh; exact h _ _ hC hh
  · rename_i o ho
    simp only [ho] at hh
    obtain ⟨ha, hh⟩ := hh
    split
    · rename_i hw; simp only [hw, if_true] at hh; exact wpIn_of_quietR (noDefer_at hnd ho) hC h ha hh
    · rename_i hw; simp only [hw] at hh; exact ⟨ha w hC, h _ _ hC hh⟩

theorem wpAnyIn_of_quietR (hnd : noDefer ops = true) {Q : Act → Prop} {Q' : Exit → Act → World → Prop} (hQ : ∀ a w, C w → Q a → Q' .normal a w) : ∀ (fuel : Nat) (listed : Array Bool) (a : Act) (w : World), C w →
    wpAnyQIn F n P md ops C Q fuel listed a → wpAnyIn F n P md ops Q' fuel listed a w
  | 0, _, _, _, hw, h => ⟨h.1, hQ _ _ hw h.2⟩
  | fuel + 1, _, _, _, hw, h => ⟨fun h0 => hQ _ _ hw (h.1 h0), fun i hi => wpOpIn_of_qOpInR hnd hw (fun a' w' hw' => wpAnyIn_of_quietR hnd hQ fuel _ a' w' hw') (h.2 i hi)⟩

/-- One walk of the lexical order serves every order, in a round too, over a class of worlds. -/
theorem wpIn_region_quietR {id : Nat} {Q : Exit → Act → World → Prop} {a : Act} {w : World} {l : List Oper} (C : World → Prop) (hm : P.follows .mixedOrders = true) (hB : Region.lexB .any l.toArray = true) (hnd : noDefer l.toArray = true) (hC : C w.drew)
    (h : wpQuietIn F n P l.toArray C (fun a' => ∀ w', C w' → Q .normal a' w') l a) : (Code.region id l.toArray true).wpIn F n P Q a w := by
  simp only [Region.lexB, Bool.and_eq_true] at hB
  refine wpIn_region_any hm (wpAnyIn_of_quietR hnd (Q := fun a' => ∀ w', C w' → Q .normal a' w') (fun _ w' hw' h => h w' hw') _ _ _ _ hC ?_)
  have := wpAnyQIn_lex (F := F) (n := n) (C := C) (md := .any) hB.1 l 0 (Array.replicate l.toArray.size false) a (by simp) (by simpa using hB.2) h
  simpa using this
end

/-- The class of worlds in which what was there lies as it lay. -/
theorem quiet_load {F : Fence} {n : Nat} {P : Program} {C : World → Prop} {o : Oper} {a : Act} {v : Value} (h : ∀ w, C w → (execOp a.eval o).run P w = .ok (.value v) w) : ∀ w, C w → o.quietAtIn F n P a C w v := fun w hw => by
  unfold Oper.quietAtIn Oper.quietUponIn
  rw [h w hw]
  exact ⟨rfl, rfl⟩

section
variable {F : Fence} {n : Nat} {P : Program} {C : World → Prop}

/-- A stand-in for the last operation: it does nothing, and waits for the same. -/
def dumb (o : Oper) : Oper := { o with dst := none, op := .move (.const (.bool false)), guard := none }
/-- Whoever waits does so for operations ahead of it; all are waited for, by the last one or by others that it waits for in turn; no guard asks the last one. -/
def chained (ops : List Oper) : Bool :=
  (List.range ops.length).all fun i => (match ops[i]? with
    | none => true
    | some o => o.after.all (fun e => !Region.binds .any e || decide (e.on < i)) && (match o.guard with | none => true | some (g : Nat × Bool) => decide (g.1 + 1 < ops.length))) &&
    (decide (i + 1 = ops.length) || (List.range ops.length).any fun k => decide (i < k) && match ops[k]? with
      | none => false
      | some o => o.after.any fun e => Region.binds .any e && e.on == i)

structure Chain (l : List Oper) (o : Oper) : Prop where
  down : ∀ (i : Nat) (oi : Oper), (l ++ [o])[i]? = some oi → ∀ e ∈ oi.after, Region.binds .any e = true → e.on < i
  grd : ∀ (i : Nat) (oi : Oper), (l ++ [o])[i]? = some oi → ∀ g : Nat × Bool, oi.guard = some g → g.1 < l.length
  next : ∀ i, i < l.length → ∃ (k : Nat) (ok : Oper), i < k ∧ (l ++ [o])[k]? = some ok ∧ ∃ e ∈ ok.after, Region.binds .any e = true ∧ e.on = i
theorem chain_of {l : List Oper} {o : Oper} (h : chained (l ++ [o]) = true) : Chain l o := by
  have key : ∀ (i : Nat) (oi : Oper), (l ++ [o])[i]? = some oi → (oi.after.all (fun e => !Region.binds .any e || decide (e.on < i)) = true ∧ (match oi.guard with | none => true | some (g : Nat × Bool) => decide (g.1 + 1 < (l ++ [o]).length)) = true) ∧
      (decide (i + 1 = (l ++ [o]).length) = true ∨ (List.range (l ++ [o]).length).any (fun k => decide (i < k) && match (l ++ [o])[k]? with
      | none => false
      | some o => o.after.any fun e => Region.binds .any e && e.on == i) = true) := by
    intro i oi hi
    have hlt := (List.getElem?_eq_some_iff.1 hi).1
    have h1 := List.all_eq_true.1 h i (List.mem_range.2 hlt)
    simp only [hi, Bool.and_eq_true, Bool.or_eq_true] at h1
    exact h1
  refine ⟨fun i oi hi e he hb => ?_, fun i oi hi g hg => ?_, fun i hi => ?_⟩
  · have h1 := Array.all_eq_true_iff_forall_mem.1 (key i oi hi).1.1 e he
    simp only [hb, Bool.not_true, Bool.false_or, decide_eq_true_eq] at h1
    exact h1
  · have h1 := (key i oi hi).1.2
    rw [hg] at h1
    simp only [decide_eq_true_eq, List.length_append, List.length_cons, List.length_nil] at h1
    omega
  · obtain ⟨oi, hoi⟩ : ∃ oi, (l ++ [o])[i]? = some oi := ⟨(l ++ [o])[i]'(by simp; omega), List.getElem?_eq_getElem _⟩
    rcases (key i oi hoi).2 with h1 | h1
    · simp at h1; omega
    · obtain ⟨k, hk, h2⟩ := List.any_eq_true.1 h1
      simp only [Bool.and_eq_true, decide_eq_true_eq] at h2
      obtain ⟨h3, h4⟩ := h2
      cases hok : (l ++ [o])[k]? with
      | none => rw [hok] at h4; cases h4
      | some ok =>
        rw [hok] at h4
        obtain ⟨e, he, h5⟩ := Array.any_eq_true'.1 h4
        simp only [Bool.and_eq_true, beq_iff_eq] at h5
        exact ⟨k, ok, h3, hok, e, he, h5.1, h5.2⟩

theorem dumb_at {l : List Oper} {o oi : Oper} {i : Nat} (h : (l ++ [o])[i]? = some oi) : (i < l.length ∧ (l ++ [dumb o])[i]? = some oi) ∨ (i = l.length ∧ oi = o ∧ (l ++ [dumb o])[i]? = some (dumb o)) := by
  have hlt := (List.getElem?_eq_some_iff.1 h).1
  simp only [List.length_append, List.length_cons, List.length_nil] at hlt
  by_cases hi : i < l.length
  · left
    rw [List.getElem?_append_left hi] at h ⊢
    exact ⟨hi, h⟩
  · right
    obtain rfl : i = l.length := by omega
    simp at h ⊢
    exact h.symm
theorem dumb_back {l : List Oper} {o oi : Oper} {i : Nat} (h : (l ++ [dumb o])[i]? = some oi) : ∃ oj, (l ++ [o])[i]? = some oj ∧ oj.after = oi.after := by
  have hlt := (List.getElem?_eq_some_iff.1 h).1
  simp only [List.length_append, List.length_cons, List.length_nil] at hlt
  by_cases hi : i < l.length
  · rw [List.getElem?_append_left hi] at h ⊢
    exact ⟨oi, h, rfl⟩
  · obtain rfl : i = l.length := by omega
    simp at h ⊢
    rw [← h]; rfl
theorem ready_dumb {l : List Oper} {o : Oper} {listed : Array Bool} {i : Nat} : i ∈ Region.ready .any (l ++ [o]).toArray listed ↔ i ∈ Region.ready .any (l ++ [dumb o]).toArray listed := by
  rw [mem_ready, mem_ready]
  simp only [List.getElem?_toArray]
  constructor
  · rintro ⟨h0, oi, hoi, h⟩
    rcases dumb_at hoi with ⟨_, h1⟩ | ⟨_, rfl, h1⟩
    · exact ⟨h0, oi, h1, h⟩
    · exact ⟨h0, _, h1, h⟩
  · rintro ⟨h0, oi, hoi, h⟩
    obtain ⟨oj, h1, h2⟩ := dumb_back hoi
    exact ⟨h0, oj, h1, by rw [h2]; exact h⟩
theorem wanted_dumb {l : List Oper} {o oi : Oper} (h : ∀ g : Nat × Bool, oi.guard = some g → g.1 < l.length) (t : Array Value) : Region.wanted oi (yielded (l ++ [dumb o]).toArray t) = Region.wanted oi (yielded (l ++ [o]).toArray t) := by
  unfold Region.wanted
  cases hg : oi.guard with
  | none => rfl
  | some g =>
    have hl := h g hg
    have e : yielded (l ++ [dumb o]).toArray t g.1 = yielded (l ++ [o]).toArray t g.1 := by
      unfold yielded
      simp only [List.getElem?_toArray]
      rw [List.getElem?_append_left hl, List.getElem?_append_left hl]
    obtain ⟨g1, g2⟩ := g
    simp only at e ⊢
    rw [e]

/-- Who has been taken has waited. -/
def Closed (ops : Array Oper) (listed : Array Bool) : Prop := ∀ (j : Nat) (oj : Oper), ops[j]? = some oj → listed.getD j false = true → ∀ e ∈ oj.after, Region.binds .any e = true → listed.getD e.on false = true
theorem Closed.set {ops : Array Oper} {listed : Array Bool} (h : Closed ops listed) {i : Nat} (hi : i ∈ Region.ready .any ops listed) : Closed ops (listed.setIfInBounds i true) := by
  intro j oj hj hl e he hb
  obtain ⟨_, oi, hoi, hall⟩ := mem_ready.1 hi
  by_cases hij : i = j
  · subst hij
    rw [hoi] at hj; cases hj
    exact getD_set_true (hall e he hb)
  · rw [getD_set_ne false hij] at hl
    exact getD_set_true (h j oj hj hl e he hb)
theorem last_all {l : List Oper} {o : Oper} (H : Chain l o) {listed : Array Bool} (hc : Closed (l ++ [o]).toArray listed) (hr : l.length ∈ Region.ready .any (l ++ [o]).toArray listed) : ∀ q j, j + q = l.length → j < l.length → listed.getD j false = true := by
  obtain ⟨_, oo, hoo, hall⟩ := mem_ready.1 hr
  intro q
  induction q using Nat.strongRecOn with
  | ind q ih =>
    intro j hq hj
    obtain ⟨k, ok, hk, hok, e, he, hb, heq⟩ := H.next j hj
    have hkl := (List.getElem?_eq_some_iff.1 hok).1
    simp only [List.length_append, List.length_cons, List.length_nil] at hkl
    by_cases hkm : k = l.length
    · subst hkm
      simp only [List.getElem?_toArray] at hoo
      rw [hok] at hoo; cases hoo
      rw [← heq]; exact hall e he hb
    · have := hc k ok (by simpa using hok) (ih (l.length - k) (by omega) k (by omega) (by omega)) e he hb
      rwa [heq] at this
theorem some_ready {l : List Oper} {o : Oper} (H : Chain l o) {listed : Array Bool} (hs : listed.size = l.length + 1) (hm : listed.getD l.length true = false) : Region.ready .any (l ++ [o]).toArray listed ≠ [] := by
  have key : ∀ q j, q = j → j < l.length + 1 → listed.getD j true = false → ∃ i, i ∈ Region.ready .any (l ++ [o]).toArray listed := by
    intro q
    induction q using Nat.strongRecOn with
    | ind q ih =>
      intro j hq hj hun
      by_cases hall : ∀ i, i < j → listed.getD i true = true
      · obtain ⟨oj, hoj⟩ : ∃ oj, (l ++ [o])[j]? = some oj := ⟨(l ++ [o])[j]'(by simp; omega), List.getElem?_eq_getElem _⟩
        refine ⟨j, mem_ready.2 ⟨hun, oj, by simpa using hoj, fun e he hb => ?_⟩⟩
        have hd := H.down j oj hoj e he hb
        have := hall e.on hd
        have hlt : e.on < listed.size := by omega
        simp [Array.getD, hlt] at this ⊢
        exact this
      · obtain ⟨i, hi⟩ := Classical.not_forall.1 hall
        obtain ⟨h1, h2⟩ := Classical.not_imp.1 hi
        exact ih i (by omega) i rfl (by omega) (by simpa using h2)
  obtain ⟨i, hi⟩ := key _ _ rfl (Nat.lt_succ_self _) hm
  intro e
  rw [e] at hi
  cases hi

theorem anyIn_of_last {l : List Oper} {o : Oper} {Q : Exit → Act → World → Prop} (H : Chain l o) (hnd : noDefer l.toArray = true) (hgo : o.guard = none) : ∀ (fuel : Nat) (listed : Array Bool) (a : Act) (w : World), C w → Closed (l ++ [o]).toArray listed →
    listed.size = l.length + 1 → listed.getD l.length true = false → wpAnyQIn F n P .any (l ++ [dumb o]).toArray C (fun a' => ∀ w', C w' → o.wpIn F n P a' w' (fun a w => Q .normal a w) Q) fuel listed a → wpAnyIn F n P .any (l ++ [o]).toArray Q fuel listed a w := by
  intro fuel
  induction fuel with
  | zero =>
    intro listed a w hw hc hs hm h
    exact absurd (List.eq_nil_iff_forall_not_mem.2 fun i hi => by have := h.1; rw [ready_dumb, this] at hi; cases hi) (some_ready H hs hm)
  | succ fuel ih =>
    intro listed a w hw hc hs hm h
    refine ⟨fun h0 => absurd h0 (some_ready H hs hm), fun i hi => ?_⟩
    have hq := h.2 i (ready_dumb.1 hi)
    obtain ⟨hun, oi, hoi, _⟩ := mem_ready.1 hi
    simp only [List.getElem?_toArray] at hoi
    rcases dumb_at hoi with ⟨hlt, h1⟩ | ⟨rfl, rfl, h1⟩
    · have hn : ∀ c, oi.op ≠ .defer c := noDefer_at hnd (i := i) (by
        rw [List.getElem?_append_left hlt] at hoi
        simpa using hoi)
      have hrec : ∀ a' w', C w' → wpAnyQIn F n P .any (l ++ [dumb o]).toArray C (fun a' => ∀ w', C w' → o.wpIn F n P a' w' (fun a w => Q .normal a w) Q) fuel (listed.setIfInBounds i true) a' → wpAnyIn F n P .any (l ++ [o]).toArray Q fuel (listed.setIfInBounds i true) a' w' := fun a' w' hw' h' =>
        ih _ a' w' hw' (hc.set hi) (by simpa using hs) (by rw [getD_set_ne true (by omega)]; exact hm) h'
      unfold qOpIn at hq
      unfold wpOpIn
      simp only [List.getElem?_toArray, h1, hoi] at hq ⊢
      obtain ⟨ha, hq⟩ := hq
      rw [wanted_dumb (H.grd i oi hoi)] at hq
      split
      · rename_i hwt; simp only [hwt, if_true] at hq; exact wpIn_of_quietR hn hw hrec ha hq
      · rename_i hwt; simp only [hwt] at hq; exact ⟨ha w hw, hrec _ _ hw hq⟩
    · have hall := last_all H hc hi
      have hnone : Region.ready .any (l ++ [oi]).toArray (listed.setIfInBounds l.length true) = [] := List.eq_nil_iff_forall_not_mem.2 fun j hj => by
        obtain ⟨hj0, oj, hoj, _⟩ := mem_ready.1 hj
        simp only [List.getElem?_toArray] at hoj
        have hjl := (List.getElem?_eq_some_iff.1 hoj).1
        simp only [List.length_append, List.length_cons, List.length_nil] at hjl
        by_cases e : l.length = j
        · subst e
          simp [hs] at hj0
        · rw [getD_set_ne true e] at hj0
          have h3 := hall (l.length - j) j (by omega) (by omega)
          have hlt : j < listed.size := by omega
          simp [hlt] at hj0 h3
          rw [hj0] at h3; cases h3
      have hnone2 : Region.ready .any (l ++ [dumb oi]).toArray (listed.setIfInBounds l.length true) = [] := List.eq_nil_iff_forall_not_mem.2 fun j hj => by
        rw [← ready_dumb, hnone] at hj; cases hj
      unfold qOpIn at hq
      unfold wpOpIn
      simp only [List.getElem?_toArray, h1, hoi] at hq ⊢
      rw [if_pos (by simp [Region.wanted, hgo])]
      obtain ⟨_, hq⟩ := hq
      rw [if_pos (by simp [Region.wanted, dumb])] at hq
      obtain ⟨v, _, hq⟩ := hq
      have hq2 : ∀ w', C w' → oi.wpIn F n P a w' (fun a w => Q .normal a w) Q := by
        cases fuel with
        | zero => exact hq.2
        | succ fuel => exact hq.1 hnone2
      refine Oper.wpIn_mono (fun a' w' h' => ?_) (hq2 w hw)
      cases fuel with
      | zero => exact ⟨hnone, h'⟩
      | succ fuel => exact ⟨fun _ => h', fun j hj => by rw [hnone] at hj; cases hj⟩

theorem wpQuietIn_snoc {ops : Array Oper} {Q Q' : Act → Prop} {o : Oper} : ∀ (l : List Oper) (a : Act), (∀ a, Q a → wpQuietIn F n P ops C Q' [o] a) → wpQuietIn F n P ops C Q l a → wpQuietIn F n P ops C Q' (l ++ [o]) a
  | [], a, h, hq => h a hq
  | p :: l, a, h, hq => by
    refine ⟨hq.1, ?_⟩
    have h2 := hq.2
    split
    · rename_i hw; simp only [hw, if_true] at h2; exact Oper.quietIn_mono (fun a' h' => wpQuietIn_snoc l a' h h') h2
    · rename_i hw; simp only [hw] at h2; exact wpQuietIn_snoc l _ h h2

/-- One walk of the lexical order, the last operation apart: it waits for all others, and may do what it likes. -/
theorem wpIn_region_last {id : Nat} {Q : Exit → Act → World → Prop} {a : Act} {w : World} {l : List Oper} {o : Oper} (C : World → Prop) (hm : P.follows .mixedOrders = true) (hB : Region.lexB .any (l ++ [dumb o]).toArray = true) (hnd : noDefer l.toArray = true)
    (hch : chained (l ++ [o]) = true) (hgo : o.guard = none) (hC : C w.drew)
    (h : wpQuietIn F n P (l ++ [dumb o]).toArray C (fun a' => ∀ w', C w' → o.wpIn F n P a' w' (fun a w => Q .normal a w) Q) l a) : (Code.region id (l ++ [o]).toArray true).wpIn F n P Q a w := by
  have H := chain_of hch
  simp only [Region.lexB, Bool.and_eq_true] at hB
  have hsz : (l ++ [o]).toArray.size = l.length + 1 := by simp
  have hsz2 : (l ++ [dumb o]).toArray.size = l.length + 1 := by simp
  refine wpIn_region_any hm ?_
  rw [hsz]
  have h1 : wpQuietIn F n P (l ++ [dumb o]).toArray C (fun a' => ∀ w', C w' → o.wpIn F n P a' w' (fun a w => Q .normal a w) Q) (l ++ [dumb o]) a := by
    refine wpQuietIn_snoc l a (fun a' h' => ⟨fun w' _ f hf => ?_, ?_⟩) h
    · simp [dumb, Oper.about] at hf
    · rw [if_pos (by simp [Region.wanted, dumb])]
      refine ⟨.bool false, fun w' hw' => ?_, h'⟩
      simp [Oper.quietAtIn, Oper.quietUponIn, dumb, execOp, Act.eval]
  have h2 := wpAnyQIn_lex (F := F) (n := n) (C := C) (md := .any) hB.1 (l ++ [dumb o]) 0 (Array.replicate (l.length + 1) false) a (by simp) (by rw [← hsz2]; simpa using hB.2) h1
  rw [show (l ++ [dumb o]).length = l.length + 1 by simp] at h2
  exact anyIn_of_last H hnd hgo _ _ _ _ hC (fun j oj _ hl => by simp [Array.getElem?_replicate] at hl; split at hl <;> simp at hl) (by simp) (by simp) h2
end

end Go.Proofs.Ytpncpeokdcolpaa

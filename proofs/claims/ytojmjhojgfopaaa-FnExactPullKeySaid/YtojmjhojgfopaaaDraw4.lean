/-
  What chapter 1's draws make: l1Some.
-/
import Derived.Test.YtojmjhojgfopaaaDraw3
import Derived.Deep.RegionHeld3
import Derived.Deep.AppendLies
namespace Go.Proofs.Ytojmjhojgfopaaa
open Go.RowKit

/-- What a drawn table is like. -/
structure DrawnB (T : Tab) : Prop where
  len : 1 ≤ T.zs.length ∧ T.zs.length ≤ 17
  t : -1 ≤ T.t ∧ T.t ≤ 16
  p : -1 ≤ T.p ∧ T.p ≤ 16
  zs : ∀ x ∈ T.zs, -3 ≤ x ∧ x ≤ 100

theorem set_all {zs : List Int} {P : Int → Prop} {x : Int} (h : ∀ y ∈ zs, P y) (i : Nat) (hx : P x) : ∀ y ∈ zs.set i x, P y := by
  intro y hy
  rcases List.mem_or_eq_of_mem_set hy with h2 | rfl
  · exact h y h2
  · exact hx

/-- A store into a block of cells. -/
theorem St.setBox {w0 w : World} {l : List It} {b : Nat} {c : Array Value} {t : TypeId} (h : St w0 w (It.box b c t :: l)) (o : Nat) (v : Value) (hf : Far (It.box b c t) l) (hlo : w0.heap.size ≤ b) : St w0 (w.setCell ⟨b, o, none⟩ v) (It.box b (c.setIfInBounds o v) t :: l) := by
  refine h.write (row := some b) ⟨rfl, rfl, rfl, by simp [World.setCell], fun k _ hk => Below.heap_setCell w _ _ k (fun e => hk (by rw [e]))⟩ (fun k e => by cases e; exact ⟨Nat.le_refl _, Nat.lt_succ_self _⟩) hf hlo ?_ (setCell_at (h.cells 0 rfl) o v)
  have h3 : b + 1 ≤ w.heap.size := h.sz 0 rfl
  show b + 1 ≤ (w.setCell _ _).heap.size
  simpa [World.setCell] using h3

theorem pull_row {w0 w : World} {l : List It} {i j k m n o : It} (h : St w0 w (i :: j :: k :: m :: n :: o :: l)) : St w0 w (n :: i :: j :: m :: o :: l) := h.turn fun x hx => by
  simp only [List.mem_cons] at hx ⊢
  rcases hx with h | h | h | h | h | h
  · exact .inr (.inr (.inr (.inr (.inl h))))
  · exact .inl h
  · exact .inr (.inl h)
  · exact .inr (.inr (.inr (.inl h)))
  · exact .inr (.inr (.inr (.inr (.inr (.inl h)))))
  · exact .inr (.inr (.inr (.inr (.inr (.inr h)))))

/-- The result is stored. -/
theorem some_close {w0 w w5 : World} {l : List It} {r bh p5 lo h c' n' : Nat} {a a' : Option Addr} {c : Nat} {code ys : List Int} {B R : It} (S5 : St w0 w5 (rd r a c code p5 :: It.bytes bh a code :: B :: It.row lo h (.slice a' n' c') ys :: R :: l))
    (hrs : r + 1 ≤ w.heap.size) (hbh : bh ≤ w.heap.size) (FL : ∀ i : It, w.heap.size ≤ i.lo → Far i l) (hlo : w.heap.size + 1 ≤ lo) (hw : w0.heap.size ≤ w.heap.size) (x y z : Value) (wf : World)
    (hwf : wf = ((w5.setCell ⟨w.heap.size, 0, none⟩ x).setCell ⟨w.heap.size, 1, none⟩ y).setCell ⟨w.heap.size, 2, none⟩ z) :
    St w0 wf (It.own lo wf.heap.size a' ys :: rd r a c code p5 :: It.bytes bh a code :: l) := by
  subst hwf
  have T0 : St w0 w5 (It.row lo h (.slice a' n' c') ys :: rd r a c code p5 :: It.bytes bh a code :: l) := S5.turn fun j hj => by
    simp only [List.mem_cons] at hj ⊢
    rcases hj with h | h | h | h
    · exact .inr (.inr (.inr (.inl h)))
    · exact .inl h
    · exact .inr (.inl h)
    · exact .inr (.inr (.inr (.inr (.inr h))))
  have hfar : Far (It.box w.heap.size #[] 0) (It.row lo h (.slice a' n' c') ys :: rd r a c code p5 :: It.bytes bh a code :: l) := ⟨.inr hlo, .inl hrs, .inl hbh, FL _ (Nat.le_refl _)⟩
  have T1 := T0.set3Far hfar hw x y z
  exact (T1.turn (l' := rd r a c code p5 :: It.bytes bh a code :: l) (fun j hj => List.mem_cons_of_mem _ hj)).own (T1.rowInts 0 rfl)

theorem own_at {w : World} {base b o : Nat} {zs : List Int} (h : OwnInts w base (some ⟨b, o, none⟩) zs) {i : Nat} (hi : i < zs.length) : w.cell? ⟨b, o + i, none⟩ = some (.int .i64 (zs[i]?.getD 0)) ∧ w.frozen? ⟨b, o + i, none⟩ = false := by
  obtain ⟨_, _, e, hc, hf⟩ := h.2 (by omega)
  cases e
  exact ⟨hc i hi, hf i hi⟩

theorem snoc_all {zs : List Int} {P : Int → Prop} {x : Int} (h : ∀ y ∈ zs, P y) (hx : P x) : ∀ y ∈ zs ++ [x], P y := by
  intro y hy
  rcases List.mem_append.1 hy with h2 | h2
  · exact h y h2
  · simp at h2; subst h2; exact hx

/-- The result is stored, behind an append to the table's slots. -/
theorem some_close2 {w0 w w4 : World} {l : List It} {r bh p5 lo c' m b1 : Nat} {a a' : Option Addr} {c : Nat} {code ys : List Int} {R : It} {cs : Array Value} (S5 : St w0 w4 (rd r a c code p5 :: It.bytes bh a code :: R :: l))
    (hbox : w4.heap[b1]? = some (.cells cs 62 (0, 0))) (hown : w4.ownsRow lo 3 1 (.slice a' m c') ys.length (ys.map (Value.int .i64)))
    (hrs : r + 1 ≤ w.heap.size) (hbh : bh ≤ w.heap.size) (FL : ∀ i : It, w.heap.size ≤ i.lo → Far i l) (hlo : w.heap.size + 1 ≤ lo) (hw : w0.heap.size ≤ w.heap.size) (hb1 : w.heap.size < b1) (v x y z : Value) (wf : World)
    (hwf : wf = (((w4.setCell ⟨b1, 2, none⟩ v).setCell ⟨w.heap.size, 0, none⟩ x).setCell ⟨w.heap.size, 1, none⟩ y).setCell ⟨w.heap.size, 2, none⟩ z) :
    St w0 wf (It.own lo wf.heap.size a' ys :: rd r a c code p5 :: It.bytes bh a code :: l) := by
  subst hwf
  have T0 : St w0 w4 (rd r a c code p5 :: It.bytes bh a code :: l) := S5.turn fun j hj => by
    simp only [List.mem_cons] at hj ⊢
    rcases hj with h | h | h
    · exact .inl h
    · exact .inr (.inl h)
    · exact .inr (.inr (.inr h))
  have hfar : ∀ b, w.heap.size ≤ b → Far (It.box b #[] 0) (rd r a c code p5 :: It.bytes bh a code :: l) := fun b hb => ⟨.inl (Nat.le_trans hrs hb), .inl (Nat.le_trans hbh hb), FL _ hb⟩
  have T1 := T0.setFar (p := ⟨b1, 2, none⟩) (hfar b1 (Nat.le_of_lt hb1)) (by show _ ≤ b1; omega) v
  have T2 := T1.set3Far (hfar _ (Nat.le_refl _)) hw x y z
  have h1 : (w4.setCell ⟨b1, 2, none⟩ v).ownsRow lo 3 1 (.slice a' m c') ys.length (ys.map (Value.int .i64)) :=
    hown.kept (row := some b1) ⟨rfl, rfl, rfl, by simp [World.setCell], fun j _ hj => Below.heap_setCell _ _ _ _ (fun e => hj (by rw [e]))⟩ (.inr (ownsRow_ne hown hbox (by decide)))
  have h2 := ownsRow_setCell_below (ownsRow_setCell_below (ownsRow_setCell_below h1 (a := ⟨w.heap.size, 0, none⟩) (by show w.heap.size < lo; omega) x) (a := ⟨w.heap.size, 1, none⟩) (by show w.heap.size < lo; omega) y) (a := ⟨w.heap.size, 2, none⟩) (by show w.heap.size < lo; omega) z
  exact T2.own (rowInts h2)

theorem drawn_of {T : Tab} (n1 : 1 ≤ T.zs.length) (n2 : T.zs.length ≤ 17) (t1 : -1 ≤ T.t) (t2 : T.t ≤ 16) (q1 : -1 ≤ T.p) (q2 : T.p ≤ 16) (h : ∀ x ∈ T.zs, -3 ≤ x ∧ x ≤ 100) : DrawnB T := ⟨⟨n1, n2⟩, ⟨t1, t2⟩, ⟨q1, q2⟩, h⟩

end Go.Proofs.Ytojmjhojgfopaaa

/-
  What a walk knows of memory, as a list of items: each has the range of blocks in which it lies, and says something of those blocks alone.
-/
import Derived.Test.YtfkdandmedojpaaDoorMarks
namespace Go.Proofs.YtfkdandmedojpaaDoor
open Go.RowKit

structure It where
  lo : Nat
  hi : Nat
  P : World → Prop
  loc : ∀ w w' : World, hi ≤ w.heap.size → w.heap.size ≤ w'.heap.size → (∀ k, lo ≤ k → k < hi → w'.heap[k]? = w.heap[k]?) → P w → P w'

/-- A block of cells. -/
def It.box (b : Nat) (c : Array Value) (t : TypeId) : It where
  lo := b
  hi := b + 1
  P := fun w => w.heap[b]? = some (.cells c t (0, 0))
  loc := fun _ _ _ _ h hp => (h b (Nat.le_refl _) (Nat.lt_succ_self _)).trans hp

/-- A slice of integers that may be written. -/
def It.own (lo hi : Nat) (a : Option Addr) (zs : List Int) : It where
  lo := lo
  hi := hi
  P := fun w => OwnInts w lo a zs ∧ ∀ p, a = some p → p.block < hi
  loc := fun w w' _ h2 h hp => by
    refine ⟨⟨fun p e => ⟨(hp.1.1 p e).1, Nat.lt_of_lt_of_le (hp.1.1 p e).2 h2⟩, fun h0 => ?_⟩, hp.2⟩
    obtain ⟨b, off, rfl, hc, hf⟩ := hp.1.2 h0
    have hb := (hp.1.1 _ rfl).1
    have hb2 := hp.2 _ rfl
    exact ⟨b, off, rfl, fun j hj => (World.cell?_of_block (w := w) (a := ⟨b, off + j, none⟩) (h b hb hb2)).trans (hc j hj), fun j hj => (World.frozen?_of_block (w := w) (a := ⟨b, off + j, none⟩) (h b hb hb2)).trans (hf j hj)⟩

/-- A slice of integers that is read, in blocks below hi. -/
def It.read (hi : Nat) (a : Option Addr) (zs : List Int) : It where
  lo := 0
  hi := hi
  P := fun w => IntsAt w a zs ∧ (0 < zs.length → ∀ p, a = some p → p.block < hi)
  loc := fun w w' _ _ h hp => by
    refine ⟨fun h0 => ?_, hp.2⟩
    obtain ⟨b, off, rfl, hc⟩ := hp.1 h0
    have hb2 := hp.2 h0 _ rfl
    exact ⟨b, off, rfl, fun j hj => (World.cell?_of_block (w := w) (a := ⟨b, off + j, none⟩) (h b (Nat.zero_le _) hb2)).trans (hc j hj)⟩

structure St (w0 w : World) (l : List It) : Prop where
  old : Below w0.heap.size w0 w
  all : ∀ i ∈ l, i.hi ≤ w.heap.size ∧ i.P w

theorem St.start (w : World) : St w w [] := ⟨Below.refl _ _, fun _ h => (by cases h)⟩

theorem St.size {w0 w : World} {l : List It} (h : St w0 w l) : w0.heap.size ≤ w.heap.size := h.old.size

theorem St.below {w0 w w' : World} {l : List It} (h : St w0 w l) (hb : Below w.heap.size w w') : St w0 w' l :=
  ⟨h.old.trans (hb.mono h.old.size), fun i hi => ⟨Nat.le_trans (h.all i hi).1 hb.size, i.loc w w' (h.all i hi).1 hb.size (fun k _ hk => hb.block k (Nat.lt_of_lt_of_le hk (h.all i hi).1)) (h.all i hi).2⟩⟩

theorem St.add {w0 w : World} {l : List It} (h : St w0 w l) (i : It) (hi : i.hi ≤ w.heap.size) (hp : i.P w) : St w0 w (i :: l) :=
  ⟨h.old, fun j hj => by
    rcases List.mem_cons.1 hj with rfl | hj
    · exact ⟨hi, hp⟩
    · exact h.all j hj⟩

theorem St.alloc {w0 w : World} {l : List It} (h : St w0 w l) (c : Array Value) (t : TypeId) : St w0 (w.alloc (.cells c t)) (It.box w.heap.size c t :: l) :=
  (h.below ((Below.refl _ _).alloc (Nat.le_refl _) _)).add _ (by simp [It.box]) (heap_alloc_new w _)

theorem St.alloc1 {w0 w w' : World} {l : List It} {c : Array Value} {t : TypeId} (h : St w0 w l) (hb : Below (w.alloc (.cells c t)).heap.size (w.alloc (.cells c t)) w') : St w0 w' (It.box w.heap.size c t :: l) :=
  (h.alloc c t).below hb

theorem St.alloc2 {w0 w w' : World} {l : List It} {c c2 : Array Value} {t t2 : TypeId} (h : St w0 w l) (hb : Below ((w.alloc (.cells c t)).alloc (.cells c2 t2)).heap.size ((w.alloc (.cells c t)).alloc (.cells c2 t2)) w') :
    St w0 w' (It.box (w.heap.size + 1) c2 t2 :: It.box w.heap.size c t :: l) := by
  have := ((h.alloc c t).alloc c2 t2).below hb
  rwa [World.size_alloc] at this

/-- A slice that a call has made. -/
theorem St.own {w0 w : World} {W : Nat} {l : List It} {a : Option Addr} {zs : List Int} (h : St w0 w l) (ho : OwnInts w W a zs) : St w0 w (It.own W w.heap.size a zs :: l) :=
  h.add _ (Nat.le_refl _) ⟨ho, fun p hp => (ho.1 p hp).2⟩

theorem St.read {w0 w : World} {l : List It} {a : Option Addr} {zs : List Int} (h : St w0 w l) (ho : IntsAt w a zs) : St w0 w (It.read w.heap.size a zs :: l) :=
  h.add _ (Nat.le_refl _) ⟨ho, fun h0 p hp => by
    obtain ⟨b, off, e, hc⟩ := ho h0
    rw [hp] at e; cases e
    exact World.block_lt_of_cell? w _ (hc 0 h0)⟩

/-- No item of the list lies where this one lies. -/
def Far (i : It) : List It → Prop
  | [] => True
  | j :: l => (j.hi ≤ i.lo ∨ i.hi ≤ j.lo) ∧ Far i l

theorem Far.all {i : It} {l : List It} (h : Far i l) : ∀ j ∈ l, j.hi ≤ i.lo ∨ i.hi ≤ j.lo := by
  induction l with
  | nil => intro j hj; cases hj
  | cons x l ih =>
    intro j hj
    rcases List.mem_cons.1 hj with rfl | hj
    · exact h.1
    · exact ih h.2 j hj

/-- One item's blocks have been written. -/
theorem St.write {w0 w w' : World} {l : List It} {i i' : It} {row : Option Nat} (h : St w0 w (i :: l)) (hg : w.grownBy w' row) (hr : ∀ k, row = some k → i.lo ≤ k ∧ k < i.hi) (hf : Far i l) (hlo : w0.heap.size ≤ i.lo)
    (hi' : i'.hi ≤ w'.heap.size) (hp : i'.P w') : St w0 w' (i' :: l) :=
  ⟨h.old.trans (grownBy_below hg h.old.size (fun k e => by have := (hr k e).1; omega)), fun j hj => by
    rcases List.mem_cons.1 hj with rfl | hj
    · exact ⟨hi', hp⟩
    · have hj' := h.all j (List.mem_cons_of_mem _ hj)
      refine ⟨Nat.le_trans hj'.1 hg.size, j.loc w w' hj'.1 hg.size (fun k h1 h2 => hg.block k (by omega) (fun e => ?_)) hj'.2⟩
      have := hr k e.symm
      rcases hf.all j hj with h3 | h3 <;> omega⟩

theorem St.mark {w0 w w' : World} {l : List It} {lo hi : Nat} {a : Option Addr} {zs ys : List Int} (h : St w0 w (It.own lo hi a zs :: l)) (hg : w.grownBy w' (a.map Addr.block)) (ho : OwnInts w' lo a ys) (hf : Far (It.own lo hi a zs) l) (hlo : w0.heap.size ≤ lo) :
    St w0 w' (It.own lo hi a ys :: l) := by
  have h0 := h.all _ (List.mem_cons_self ..)
  have hb : ∀ p, a = some p → p.block < hi := h0.2.2
  refine h.write hg (fun k e => ?_) hf hlo (Nat.le_trans h0.1 hg.size) ⟨ho, hb⟩
  cases a with
  | none => cases e
  | some p => cases e; exact ⟨(ho.1 p rfl).1, hb p rfl⟩

/-- The items in another order. -/
theorem St.turn {w0 w : World} {l l' : List It} (h : St w0 w l) (hl : ∀ i ∈ l', i ∈ l) : St w0 w l' := ⟨h.old, fun i hi => h.all i (hl i hi)⟩

theorem St.markAt {w0 w w' : World} {l : List It} {lo hi : Nat} {a : Option Addr} {zs ys : List Int} (h : St w0 w l) (hg : w.grownBy w' (a.map Addr.block)) (ho : OwnInts w' lo a ys) (n : Nat) (hn : l[n]? = some (It.own lo hi a zs))
    (hf : Far (It.own lo hi a zs) (l.eraseIdx n)) (hlo : w0.heap.size ≤ lo) : St w0 w' (l.set n (It.own lo hi a ys)) := by
  have h1 : St w0 w (It.own lo hi a zs :: l.eraseIdx n) := h.turn fun i hi => by
    rcases List.mem_cons.1 hi with rfl | hi
    · exact List.mem_of_getElem? hn
    · exact List.mem_of_mem_eraseIdx hi
  refine (h1.mark hg ho hf hlo).turn fun i hi => ?_
  obtain ⟨k, hk⟩ := List.getElem?_of_mem hi
  rw [List.getElem?_set] at hk
  split at hk
  · split at hk
    · cases hk; exact List.mem_cons_self ..
    · cases hk
  · rename_i hne
    refine List.mem_cons_of_mem _ ?_
    rw [List.mem_eraseIdx_iff_getElem?]
    exact ⟨k, Ne.symm hne, hk⟩

theorem St.get {w0 w : World} {l : List It} (h : St w0 w l) (n : Nat) {i : It} (hi : l[n]? = some i) : i.P w := (h.all i (List.mem_of_getElem? hi)).2
theorem St.ints {w0 w : World} {l : List It} {lo hi : Nat} {a : Option Addr} {zs : List Int} (h : St w0 w l) (n : Nat) (hi : l[n]? = some (It.own lo hi a zs)) : IntsAt w a zs := (h.get n hi).1.ints
theorem St.owns {w0 w : World} {l : List It} {lo hi : Nat} {a : Option Addr} {zs : List Int} (h : St w0 w l) (n : Nat) (hi : l[n]? = some (It.own lo hi a zs)) : OwnInts w lo a zs := (h.get n hi).1
theorem St.reads {w0 w : World} {l : List It} {hi : Nat} {a : Option Addr} {zs : List Int} (h : St w0 w l) (n : Nat) (hi : l[n]? = some (It.read hi a zs)) : IntsAt w a zs := (h.get n hi).1
theorem St.cells {w0 w : World} {l : List It} {b : Nat} {c : Array Value} {t : TypeId} (h : St w0 w l) (n : Nat) (hi : l[n]? = some (It.box b c t)) : w.heap[b]? = some (.cells c t (0, 0)) := h.get n hi

/-- A store into a block that is in no item's range. -/
theorem St.setFar {w0 w : World} {l : List It} (h : St w0 w l) {p : Addr} (hf : Far (It.box p.block #[] 0) l) (hlo : w0.heap.size ≤ p.block) (v : Value) : St w0 (w.setCell p v) l :=
  ⟨h.old.setCell hlo v, fun j hj => by
    have hj' := h.all j hj
    have hz : (w.setCell p v).heap.size = w.heap.size := by simp [World.setCell]
    refine ⟨by rw [hz]; exact hj'.1, j.loc w _ hj'.1 (by omega) (fun k h1 h2 => Below.heap_setCell w p v k (fun e => ?_)) hj'.2⟩
    rcases hf.all j hj with h3 | h3
    · have : (It.box p.block #[] 0).lo = p.block := rfl
      omega
    · have : (It.box p.block #[] 0).hi = p.block + 1 := rfl
      omega⟩

theorem St.drew {w0 w : World} {l : List It} (h : St w0 w l) : St w0 w.drew l := h.below ((Below.refl _ _).drew)

theorem facts1 {w : World} {b : Nat} {x : Value} {T : TypeId} (h : w.heap[b]? = some (.cells #[x] T (0, 0))) :
    w.cell? ⟨b, 0, none⟩ = some x ∧ w.frozen? ⟨b, 0, none⟩ = false ∧ b < w.heap.size :=
  ⟨by simp [World.cell?, h], by simp [World.frozen?, h], (Array.getElem?_eq_some_iff.1 h).1⟩

/-- What a block of three cells tells the walk. -/
theorem facts3 {w : World} {b : Nat} {x y z : Value} {T : TypeId} (h : w.heap[b]? = some (.cells #[x, y, z] T (0, 0))) :
    w.cell? ⟨b, 0, none⟩ = some x ∧ w.cell? ⟨b, 1, none⟩ = some y ∧ w.cell? ⟨b, 2, none⟩ = some z ∧
    w.frozen? ⟨b, 0, none⟩ = false ∧ w.frozen? ⟨b, 1, none⟩ = false ∧ w.frozen? ⟨b, 2, none⟩ = false ∧ b < w.heap.size :=
  ⟨by simp [World.cell?, h], by simp [World.cell?, h], by simp [World.cell?, h], by simp [World.frozen?, h], by simp [World.frozen?, h], by simp [World.frozen?, h], (Array.getElem?_eq_some_iff.1 h).1⟩

end Go.Proofs.YtfkdandmedojpaaDoor

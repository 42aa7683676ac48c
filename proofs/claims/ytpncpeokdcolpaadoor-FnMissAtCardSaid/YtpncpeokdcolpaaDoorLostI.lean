/-
  The program's LostKeys and IsSound.
-/
import Derived.Test.YtpncpeokdcolpaaDoorKeys
import Derived.Test.YtpncpeokdcolpaaDoorLost
import Derived.Test.YtpncpeokdcolpaaDoorIs
import Derived.Test.YtpncpeokdcolpaaDoorRunAt
import Derived.Test.YtpncpeokdcolpaaDoorLow
namespace Go.Proofs.YtpncpeokdcolpaaDoor
open Go.RowKit Go.Shelf
attribute [local go_sem] Oper.semAt_some

/-- Items that all lie below B are kept by what keeps the blocks below B. -/
theorem St.low {w0 w w' : World} {l : List It} {B : Nat} (h : St w0 w l) (hb : Below B w w') (h0 : w0.heap.size ≤ B) (hi : ∀ i ∈ l, i.hi ≤ B) : St w0 w' l :=
  ⟨h.old.trans (hb.mono h0), fun i hm => ⟨Nat.le_trans (h.all i hm).1 hb.size, i.loc w w' (h.all i hm).1 hb.size (fun k _ hk => hb.block k (Nat.lt_of_lt_of_le hk (hi i hm))) (h.all i hm).2⟩⟩
theorem KeepsFrom.of_below {B : Nat} {W W' : World} (h : Below W.heap.size W W') : KeepsFrom B W W' :=
  ⟨h.size, fun k _ _ hk _ => (h.block k (Array.getElem?_eq_some_iff.1 hk).1).trans hk⟩
theorem sort_lost {zs : List Int} (h : Good zs zs.length) (p : Int → Bool) : (((zs.filter fun x => inB x 0 99).filter p).mergeSort fun x y => decide (x ≤ y)) = (sortU zs).filter p := by
  have hp := List.mergeSort_perm ((zs.filter fun x => inB x 0 99).filter p) (fun x y => decide (x ≤ y))
  have hs := List.pairwise_mergeSort (le := fun x y : Int => decide (x ≤ y)) (fun a b c h1 h2 => by simp at *; omega) (fun a b => by simp; omega) ((zs.filter fun x => inB x 0 99).filter p)
  have hu := sortU_pairwise zs
  have hperm : (zs.filter fun x => inB x 0 99).Perm (sortU zs) := by
    rw [← sort_keys h]
    exact (List.mergeSort_perm _ _).symm
  refine List.Perm.eq_of_pairwise (le := fun x y : Int => decide (x ≤ y) = true) (fun a b _ _ h1 h2 => ?_) hs ((hu.filter p).imp fun h => ?_) (hp.trans (hperm.filter p))
  · simp at h1 h2; omega
  · simp; omega

/-- The keys lost among some. -/
def lostL (T : Tab) (l : List Int) : List Int := l.filter fun k => decide (findI T k < 0)
theorem lostL_keep {T : Tab} {l : List Int} {x : Int} (h : 0 ≤ findI T x) : lostL T (l ++ [x]) = lostL T l := by simp [lostL]; omega
theorem lostL_new {T : Tab} {l : List Int} {x : Int} (h : findI T x < 0) : lostL T (l ++ [x]) = lostL T l ++ [x] := by simp [lostL, h]
theorem lostL_len (T : Tab) (l : List Int) : (lostL T l).length ≤ l.length := List.length_filter_le _ _


theorem lostOf_len (T : Tab) : (lostOf T).length ≤ 1000 := by
  unfold lostOf
  split
  · have := sortTo_len T.zs 100
    have h2 := List.length_filter_le (fun k => decide (findI T k < 0)) (sortU T.zs)
    have h3 : (sortU T.zs).length = (sortTo T.zs 100).length := rfl
    omega
  · simp
theorem sound_iff (T : Tab) : soundB T = (validB T && ((lostOf T).length == 0)) := by
  unfold soundB
  cases lostOf T <;> simp

end Go.Proofs.YtpncpeokdcolpaaDoor

/-
  FormatNest, of the program and of the model.
-/
import Derived.Test.YtojmjhojgfopaaaDoorNestV
import Derived.Test.YtojmjhojgfopaaaDoorNestS
import Derived.Test.YtojmjhojgfopaaaDoorFmtT
namespace Go.Proofs.YtojmjhojgfopaaaDoor
open Go.RowKit

/-- The text of a valid nest. -/
def fmtNL (N : Nst) : List UInt8 := (((Lib.decDigits N.m.toNat ++ [43]) ++ Lib.decDigits N.g.toNat) ++ [47]) ++ fmtOf N.one
def fmtN (N : Nst) : List UInt8 := if nestB N then fmtNL N else []

theorem fmtOf_len (T : Tab) : (fmtOf T).length ≤ 100 := by
  cases hv : validB T
  · simp [fmtOf, hv]
  · obtain ⟨⟨l1, l2⟩, ⟨t1, t2⟩, ⟨p1, p2⟩, hg⟩ := valid_facts hv
    have hj := join_len (xs := (T.zs.take T.zs.length).map slotL) (by
      intro y hy
      obtain ⟨x, hx, rfl⟩ := List.mem_map.1 hy
      obtain ⟨j, hj, rfl⟩ := List.getElem_of_mem (List.mem_of_mem_take hx)
      have := valid_slot hv hj
      rw [nth, List.getElem?_eq_getElem hj] at this
      exact slotL_len this.1 this.2)
    have a := dec_len (n := T.t.toNat) (by omega)
    have b := dec_len (n := T.p.toNat) (by omega)
    simp only [fmtOf, hv, if_true, fmtL, preL, headL, List.length_append, List.length_cons, List.length_nil]
    simp only [List.length_map, List.length_take, Nat.min_self] at hj
    omega

set_option maxHeartbeats 4000000 in
set_option maxRecDepth 100000 in
theorem FormatNest_any (N : Nst) (a : Option Addr) (c : Nat) (w : World) (hx : N.zs.length ≤ 9223372036854775807) (h1 : IntsAt w a N.zs) :
    Calls Tryd.prog 7 #[nstV N a c] w fun e w' => e = .returned (str (fmtN N)) ∧ Below w.heap.size w w' := by
  have S0 := ((St.start w).read h1).alloc (nstC N a c) 27
  obtain ⟨x0, x1, x2, x3, x4, xz⟩ := facts5 (S0.cells 0 rfl)
  cases hn : nestB N
  · have R : Hid (fmtN N = []) := Lib.hid (by simp [fmtN, hn])
    go_enter Tryd.func7, Tryd.ntmps7
    go_wp2_with fail
    clear x0 x1 x2 x3 x4 xz
    refine (NestValid_any N a c _ hx (by exact S0.reads 1 rfl)).mono ?_
    rw [hn]
    rintro e w1 ⟨rfl, hb⟩
    have S1 := S0.below hb
    go_wp2
    go_ret
    exact ⟨by rw [R.out]; rfl, S1.old⟩
  obtain ⟨hv1, hv2, _⟩ := nestB_iff.1 hn
  obtain ⟨_, ⟨t1', t2'⟩, ⟨p1', p2'⟩, _⟩ := valid_facts hv2
  have t1 : 0 ≤ N.m := t1'
  have t2 : N.m ≤ 15 := t2'
  have p1 : 0 ≤ N.g := p1'
  have p2 : N.g ≤ 15 := p2'
  clear t1' t2' p1' p2'
  have R : Hid (fmtN N = fmtNL N) := Lib.hid (by simp [fmtN, hn])
  obtain ⟨tn, ht⟩ : ∃ n : Nat, N.m = n := ⟨N.m.toNat, by omega⟩
  obtain ⟨pn, hp⟩ : ∃ n : Nat, N.g = n := ⟨N.g.toNat, by omega⟩
  have HH : Hid (fmtNL N = (((Lib.decDigits tn ++ [43]) ++ Lib.decDigits pn) ++ [47]) ++ fmtOf N.one) := Lib.hid (by rw [fmtNL, ht, hp]; simp)
  have hfl := fmtOf_len N.one
  have HF := Lib.hid fun (W : World) (h : IntsAt W a N.zs) => FormatTable_any N.one a c W hx h
  have e0 : Hid (str (fmtOf N.one) = .string ⟨(fmtOf N.one).toArray⟩) := Lib.hid rfl
  have hjs : (⟨(fmtOf N.one).toArray⟩ : ByteArray).size ≤ 100 := by simpa [ByteArray.size] using hfl
  have JL : Hid ((⟨(fmtOf N.one).toArray⟩ : ByteArray).data.toList = fmtOf N.one) := Lib.hid rfl
  have HT := Lib.hid ht
  have HP := Lib.hid hp
  have htn : tn ≤ 15 := by omega
  have hpn : pn ≤ 15 := by omega
  clear ht hp
  unfold str at HF
  generalize (⟨(fmtOf N.one).toArray⟩ : ByteArray) = bj at HF hjs JL e0
  obtain ⟨bx, BX, e1, D1⟩ := Itoa_str tn (by omega)
  obtain ⟨bq, BY, e2, D2⟩ := Itoa_str pn (by omega)
  have f1 := fun W => addB W bx ⟨#[43]⟩ (by rw [one_size]; omega)
  have f2 := fun W => addB W (bx ++ ⟨#[43]⟩) bq (by rw [ByteArray.size_append, one_size]; omega)
  have f3 := fun W => addB W ((bx ++ ⟨#[43]⟩) ++ bq) ⟨#[47]⟩ (by rw [ByteArray.size_append, ByteArray.size_append, one_size, one_size]; omega)
  have f4 := fun W => addB W (((bx ++ ⟨#[43]⟩) ++ bq) ++ ⟨#[47]⟩) bj (by rw [ByteArray.size_append, ByteArray.size_append, ByteArray.size_append, one_size, one_size]; omega)
  have q0 := index_tabs0 N a c
  clear hfl e0
  go_enter Tryd.func7, Tryd.ntmps7
  go_wp2_with fail
  clear x0 x1 x2 x3 x4 xz
  refine (NestValid_any N a c _ hx (by exact S0.reads 1 rfl)).mono ?_
  rw [hn]
  rintro e w1 ⟨rfl, hb⟩
  have S1 := S0.below hb
  clear S0 hb
  have X0 : _ ∧ _ ∧ _ ∧ _ ∧ _ := (S1.ten 0 0 rfl rfl).2.2.2.2.2
  have X0d : _ ∧ _ ∧ _ ∧ _ ∧ _ := (S1.drew.ten 0 0 rfl rfl).2.2.2.2.2
  rw [HT.out, HP.out] at X0 X0d
  go_wp2_with fail
  go_region_held3 (fun w' => w'.cell? ⟨w.heap.size, 0, none⟩ = some (.int .i64 N.t) ∧ w'.cell? ⟨w.heap.size, 1, none⟩ = some (.int .i64 N.p) ∧ w'.cell? ⟨w.heap.size, 2, none⟩ = some (.int .i64 tn) ∧ w'.cell? ⟨w.heap.size, 3, none⟩ = some (.int .i64 pn) ∧ w'.cell? ⟨w.heap.size, 4, none⟩ = some (.slice a N.zs.length c))
    (first
      | with_reducible exact X0
      | with_reducible exact X0d
      | with_reducible exact X6
      | with_reducible exact X7)
    (first
      | ((with_reducible refine (D1.out _).mono ?_); rintro e w3 ⟨rfl, rfl⟩)
      | ((with_reducible refine (D2.out _).mono ?_); rintro e w4 ⟨rfl, rfl⟩)
      | (go_at_call 18; refine ((show Calls Tryd.prog 18 #[.agg #[.int .i64 N.t, .int .i64 N.p, .int .i64 tn, .int .i64 pn, .slice a N.zs.length c]] _ _ by rw [← HT.out, ← HP.out]; exact tables_any N a c _)).mono ?_; rintro e w6 ⟨rfl, hb⟩; have S6 := S1.drew.below hb; clear hb; have X6 : _ ∧ _ ∧ _ ∧ _ ∧ _ := (S6.ten 0 0 rfl rfl).2.2.2.2.2; rw [HT.out, HP.out] at X6)
      | ((with_reducible refine (HF.out _ (by exact S6.reads 1 rfl)).mono ?_); rintro e w7 ⟨rfl, hb⟩; have S7 := S6.below hb; clear hb; have X7 : _ ∧ _ ∧ _ ∧ _ ∧ _ := (S7.ten 0 0 rfl rfl).2.2.2.2.2; rw [HT.out, HP.out] at X7))
  clear f1 f2 f3 f4 X0 X0d X6 X7
  go_wp2
  go_ret
  refine ⟨?_, S7.old⟩
  rw [R.out]
  exact congrArg Ending.returned (str_of (by rw [HH.out]; exact app_bytes (snoc_bytes (app_bytes (snoc_bytes BX.out 43) BY.out) 47) JL.out))

set_option maxHeartbeats 4000000 in
set_option maxRecDepth 100000 in
theorem specFormatNest_any (N : Nst) (a : Option Addr) (c : Nat) (w : World) (hx : N.zs.length ≤ 9223372036854775807) (h1 : IntsAt w a N.zs) :
    Calls Tryd.prog 5 #[nstV N a c] w fun e w' => e = .returned (str (fmtN N)) ∧ Below w.heap.size w w' := by
  have S0 := ((St.start w).read h1).alloc (nstC N a c) 27
  obtain ⟨x0, x1, x2, x3, x4, xz⟩ := facts5 (S0.cells 0 rfl)
  cases hn : nestB N
  · have R : Hid (fmtN N = []) := Lib.hid (by simp [fmtN, hn])
    go_enter Tryd.func5, Tryd.ntmps5
    go_wp2_with fail
    clear x0 x1 x2 x3 x4 xz
    refine (specNestValid_any N a c _ hx (by exact S0.reads 1 rfl)).mono ?_
    rw [hn]
    rintro e w1 ⟨rfl, hb⟩
    have S1 := S0.below hb
    go_wp2
    go_ret
    exact ⟨by rw [R.out]; rfl, S1.old⟩
  obtain ⟨hv1, hv2, _⟩ := nestB_iff.1 hn
  obtain ⟨_, ⟨t1', t2'⟩, ⟨p1', p2'⟩, _⟩ := valid_facts hv2
  have t1 : 0 ≤ N.m := t1'
  have t2 : N.m ≤ 15 := t2'
  have p1 : 0 ≤ N.g := p1'
  have p2 : N.g ≤ 15 := p2'
  clear t1' t2' p1' p2'
  have R : Hid (fmtN N = fmtNL N) := Lib.hid (by simp [fmtN, hn])
  obtain ⟨tn, ht⟩ : ∃ n : Nat, N.m = n := ⟨N.m.toNat, by omega⟩
  obtain ⟨pn, hp⟩ : ∃ n : Nat, N.g = n := ⟨N.g.toNat, by omega⟩
  have HH : Hid (fmtNL N = (((Lib.decDigits tn ++ [43]) ++ Lib.decDigits pn) ++ [47]) ++ fmtOf N.one) := Lib.hid (by rw [fmtNL, ht, hp]; simp)
  have hfl := fmtOf_len N.one
  have HF := Lib.hid fun (W : World) (h : IntsAt W a N.zs) => specFormatTable_any N.one a c W hx h
  have hjs : (⟨(fmtOf N.one).toArray⟩ : ByteArray).size ≤ 100 := by simpa [ByteArray.size] using hfl
  have JL : Hid ((⟨(fmtOf N.one).toArray⟩ : ByteArray).data.toList = fmtOf N.one) := Lib.hid rfl
  have HT := Lib.hid ht
  have HP := Lib.hid hp
  have htn : tn ≤ 15 := by omega
  have hpn : pn ≤ 15 := by omega
  clear ht hp
  unfold str at HF
  generalize (⟨(fmtOf N.one).toArray⟩ : ByteArray) = bj at HF hjs JL
  obtain ⟨bx, BX, e1, D1⟩ := l14Dec_str tn (by omega)
  obtain ⟨bq, BY, e2, D2⟩ := l14Dec_str pn (by omega)
  have f1 := fun W => addB W bx ⟨#[43]⟩ (by rw [one_size]; omega)
  have f2 := fun W => addB W (bx ++ ⟨#[43]⟩) bq (by rw [ByteArray.size_append, one_size]; omega)
  have f3 := fun W => addB W ((bx ++ ⟨#[43]⟩) ++ bq) ⟨#[47]⟩ (by rw [ByteArray.size_append, ByteArray.size_append, one_size, one_size]; omega)
  have f4 := fun W => addB W (((bx ++ ⟨#[43]⟩) ++ bq) ++ ⟨#[47]⟩) bj (by rw [ByteArray.size_append, ByteArray.size_append, ByteArray.size_append, one_size, one_size]; omega)
  clear hfl
  go_enter Tryd.func5, Tryd.ntmps5
  go_wp2_with fail
  clear x0 x1 x2 x3 x4 xz
  refine (specNestValid_any N a c _ hx (by exact S0.reads 1 rfl)).mono ?_
  rw [hn]
  rintro e w1 ⟨rfl, hb⟩
  have S1 := S0.below hb
  clear S0 hb
  have X0 : _ ∧ _ ∧ _ ∧ _ ∧ _ := (S1.ten 0 0 rfl rfl).2.2.2.2.2
  have X0d : _ ∧ _ ∧ _ ∧ _ ∧ _ := (S1.drew.ten 0 0 rfl rfl).2.2.2.2.2
  rw [HT.out, HP.out] at X0 X0d
  go_wp2_with fail
  go_region_held3 (fun w' => w'.cell? ⟨w.heap.size, 0, none⟩ = some (.int .i64 N.t) ∧ w'.cell? ⟨w.heap.size, 1, none⟩ = some (.int .i64 N.p) ∧ w'.cell? ⟨w.heap.size, 2, none⟩ = some (.int .i64 tn) ∧ w'.cell? ⟨w.heap.size, 3, none⟩ = some (.int .i64 pn) ∧ w'.cell? ⟨w.heap.size, 4, none⟩ = some (.slice a N.zs.length c))
    (first
      | with_reducible exact X0
      | with_reducible exact X0d
      | with_reducible exact X4
      | with_reducible exact X5
      | with_reducible exact X6
      | with_reducible exact X7)
    (first
      | ((with_reducible refine (D1.out _).mono ?_); rintro e w3 ⟨rfl, hb⟩; have S4 := S1.drew.below hb; clear hb; have X4 : _ ∧ _ ∧ _ ∧ _ ∧ _ := (S4.ten 0 0 rfl rfl).2.2.2.2.2; rw [HT.out, HP.out] at X4)
      | ((with_reducible refine (D2.out _).mono ?_); rintro e w4 ⟨rfl, hb⟩; have S5 := S4.below hb; clear hb; have X5 : _ ∧ _ ∧ _ ∧ _ ∧ _ := (S5.ten 0 0 rfl rfl).2.2.2.2.2; rw [HT.out, HP.out] at X5)
      | (go_at_call 13; refine ((show Calls Tryd.prog 13 #[.agg #[.int .i64 N.t, .int .i64 N.p, .int .i64 tn, .int .i64 pn, .slice a N.zs.length c]] _ _ by rw [← HT.out, ← HP.out]; exact l9First_any N a c _)).mono ?_; rintro e w6 ⟨rfl, hb⟩; have S6 := S5.below hb; clear hb; have X6 : _ ∧ _ ∧ _ ∧ _ ∧ _ := (S6.ten 0 0 rfl rfl).2.2.2.2.2; rw [HT.out, HP.out] at X6)
      | ((with_reducible refine (HF.out _ (by exact S6.reads 1 rfl)).mono ?_); rintro e w7 ⟨rfl, hb⟩; have S7 := S6.below hb; clear hb; have X7 : _ ∧ _ ∧ _ ∧ _ ∧ _ := (S7.ten 0 0 rfl rfl).2.2.2.2.2; rw [HT.out, HP.out] at X7))
  clear f1 f2 f3 f4 X0 X0d X4 X5 X6 X7
  go_wp2
  go_ret
  refine ⟨?_, S7.old⟩
  rw [R.out]
  exact congrArg Ending.returned (str_of (by rw [HH.out]; exact app_bytes (snoc_bytes (app_bytes (snoc_bytes BX.out 43) BY.out) 47) JL.out))

end Go.Proofs.YtojmjhojgfopaaaDoor

/-
  The reader of drawn bytes: pick, num.
-/
import Derived.Test.YtkdkdmjhhgllgaaGreatDoorBase
import Derived.Test.YtkdkdmjhhgllgaaGreatDoorLow
import Derived.Laws.BitsAllLaws
import Derived.IntWalk
namespace Go.Proofs.YtkdkdmjhhgllgaaGreatDoor
open Go.RowKit

theorem xor_i64 (a b : Int) (h1 : 0 ≤ a) (h2 : a < 4611686018427387904) (h3 : 0 ≤ b) (h4 : b < 4611686018427387904) : 0 ≤ bits .xor .i64 a b ∧ bits .xor .i64 a b < 4611686018427387904 := by
  obtain ⟨A, rfl⟩ := Int.eq_ofNat_of_zero_le h1
  obtain ⟨B, rfl⟩ := Int.eq_ofNat_of_zero_le h3
  have hx : A ^^^ B < 2 ^ 62 := Nat.xor_lt_two_pow (by omega) (by omega)
  have e : ∀ N : Nat, N < 4611686018427387904 → (BitVec.ofInt 64 (N : Int)).toNat = N := by
    intro N hN
    rw [BitVec.toNat_ofInt]
    omega
  have : bits .xor .i64 (A : Int) (B : Int) = ((A ^^^ B : Nat) : Int) := by
    show IntKind.i64.wrap ((BitVec.ofInt 64 (A : Int) ^^^ BitVec.ofInt 64 (B : Int)).toNat : Int) = _
    rw [BitVec.toNat_xor, e A (by omega), e B (by omega), IntKind.wrap_i64]
    omega
  rw [this]
  omega

theorem mix_bounds (A D : Int) (h1 : 0 ≤ A) (h2 : A ≤ 1000000000) (h3 : 0 ≤ D) (h4 : D ≤ 1000000) : 0 ≤ wrap64 (A + wrap64 (wrap64 D * 53)) ∧ wrap64 (A + wrap64 (wrap64 D * 53)) ≤ 2000000000 := by
  rw [IntWalk.wrap64_in D (by omega), IntWalk.wrap64_in (D * 53) (by omega), IntWalk.wrap64_in _ (by omega)]
  omega

/-- Bytes that are read. -/
structure CodeOk (code : List Int) : Prop where
  len : code.length ≤ 2000
  byte : ∀ i, 0 ≤ nth code i ∧ nth code i ≤ 255

/-- Two cells of a block. -/
theorem facts2 {w : World} {b : Nat} {x y : Value} {T : TypeId} (h : w.heap[b]? = some (.cells #[x, y] T (0, 0))) :
    w.cell? ⟨b, 0, none⟩ = some x ∧ w.cell? ⟨b, 1, none⟩ = some y ∧ w.frozen? ⟨b, 0, none⟩ = false ∧ w.frozen? ⟨b, 1, none⟩ = false ∧ b < w.heap.size :=
  ⟨by simp [World.cell?, h], by simp [World.cell?, h], by simp [World.frozen?, h], by simp [World.frozen?, h], (Array.getElem?_eq_some_iff.1 h).1⟩

theorem NumsAt.at {k : IntKind} {w : World} {a : Option Addr} {zs : List Int} (h : NumsAt k w a zs) {i : Nat} (hi : i < zs.length) :
    ∃ b o x, a = some ⟨b, o, none⟩ ∧ w.cell? ⟨b, o + i, none⟩ = some (.int k x) ∧ Hid (nth zs i = x) :=
  let ⟨b, o, e, hc⟩ := h (by omega)
  ⟨b, o, _, e, hc i hi, rfl⟩

set_option maxHeartbeats 1000000 in
/-- Nothing to read: 0. -/
theorem pick_none (r : Nat) (a : Option Addr) (c : Nat) (p : Nat) (n : Int) (w : World) (h : w.heap[r]? = some (.cells #[.slice a 0 c, .int .i64 p] 87 (0, 0))) (hp : p ≤ 1000000) (hn : 1 ≤ n) :
    Calls Tryz.prog 14 #[.pointer (some ⟨r, 0, none⟩), .int .i64 n] w fun e w' => e = .returned (.int .i64 0) ∧ w' = w.setCell ⟨r, 1, none⟩ (.int .i64 ((p : Int) + 1)) := by
  obtain ⟨x0, x1, x2, x3, xz⟩ := facts2 h
  have H := Lib.hid h
  clear h
  have t1 : decide (n < 1) = false := by simp; omega
  go_enter Tryz.func14, Tryz.ntmps14
  go_wp2
  go_ret
  exact ⟨rfl, rfl⟩

set_option maxHeartbeats 1000000 in
/-- A byte that is there. -/
theorem pick_byte (r : Nat) (a : Option Addr) (c : Nat) (code : List Int) (p : Nat) (n : Int) (w : World) (h : w.heap[r]? = some (.cells #[.slice a code.length c, .int .i64 p] 87 (0, 0))) (hc : NumsAt .u8 w a code) (ho : CodeOk code) (hlt : p < code.length)
    (hne : ∀ q, a = some q → q.block ≠ r) (hn : 1 ≤ n) (hn2 : n ≤ 1000000) :
    Calls Tryz.prog 14 #[.pointer (some ⟨r, 0, none⟩), .int .i64 n] w fun e w' => ∃ k : Int, 0 ≤ k ∧ k < n ∧ e = .returned (.int .i64 k) ∧ w' = w.setCell ⟨r, 1, none⟩ (.int .i64 ((p : Int) + 1)) := by
  obtain ⟨x0, x1, x2, x3, xz⟩ := facts2 h
  have hl := ho.len
  obtain ⟨b, o, x, rfl, q, X⟩ := hc.at hlt
  have hb := ho.byte p
  rw [X.out] at hb
  obtain ⟨hb1, hb2⟩ := hb
  have q' : (w.setCell ⟨r, 1, none⟩ (.int .i64 ((p : Int) + 1))).cell? ⟨b, o + p, none⟩ = some (.int .u8 x) := by
    rw [World.cell?_setCell_other _ _ _ _ (fun e => hne _ rfl (congrArg Addr.block e).symm)]; exact q
  have H := Lib.hid h
  clear h hc
  have t1 : decide (n < 1) = false := by simp; omega
  have t2 : ((code.length : Int) == 0) = false := beq_eq_false_iff_ne.2 (by omega)
  have ln : (n == 0) = false := beq_eq_false_iff_ne.2 (by omega)
  go_enter Tryz.func14, Tryz.ntmps14
  go_wp2
  go_ret
  exact ⟨x % n, Int.emod_nonneg _ (by omega), Int.emod_lt_of_pos _ (by omega), rfl, rfl⟩

set_option maxHeartbeats 2000000 in
/-- A number mixed from two bytes. -/
theorem pick_mix (r : Nat) (a : Option Addr) (c : Nat) (code : List Int) (p : Nat) (n : Int) (w : World) (h : w.heap[r]? = some (.cells #[.slice a code.length c, .int .i64 p] 87 (0, 0))) (hc : NumsAt .u8 w a code) (ho : CodeOk code) (h0 : 0 < code.length) (hge : code.length ≤ p)
    (hp : p ≤ 1000000) (hne : ∀ q, a = some q → q.block ≠ r) (hn : 1 ≤ n) (hn2 : n ≤ 1000000) :
    Calls Tryz.prog 14 #[.pointer (some ⟨r, 0, none⟩), .int .i64 n] w fun e w' => ∃ k : Int, 0 ≤ k ∧ k < n ∧ e = .returned (.int .i64 k) ∧ ∃ q, w' = (w.setCell ⟨r, 1, none⟩ (.int .i64 ((p : Int) + 1))).drewN q := by
  obtain ⟨x0, x1, x2, x3, xz⟩ := facts2 h
  have hl := ho.len
  obtain ⟨b, o, rfl, hcc⟩ := hc h0
  have m1 : p % code.length < code.length := Nat.mod_lt _ h0
  have m2 : (p * 7 + 3) % code.length < code.length := Nat.mod_lt _ h0
  obtain ⟨u, hu⟩ : ∃ u, u = p % code.length := ⟨_, rfl⟩
  obtain ⟨v, hv⟩ : ∃ v, v = (p * 7 + 3) % code.length := ⟨_, rfl⟩
  rw [← hu] at m1
  rw [← hv] at m2
  have U : Hid (((p : Int)) % (code.length : Int) = (u : Int)) := Lib.hid (by rw [hu, Int.natCast_emod])
  have V : Hid (((p : Int) * 7 + 3) % (code.length : Int) = (v : Int)) := Lib.hid (by rw [hv, Int.natCast_emod]; simp)
  clear hu hv
  obtain ⟨x, hX⟩ : ∃ x, nth code u = x := ⟨_, rfl⟩
  obtain ⟨y, hY⟩ : ∃ y, nth code v = y := ⟨_, rfl⟩
  obtain ⟨bx1, bx2⟩ := ho.byte u
  obtain ⟨by1, by2⟩ := ho.byte v
  rw [hX] at bx1 bx2
  rw [hY] at by1 by2
  have far : ∀ j, (⟨r, 1, none⟩ : Addr) ≠ ⟨b, o + j, none⟩ := fun j e => hne _ rfl (congrArg Addr.block e).symm
  have q1 : w.cell? ⟨b, o + u, none⟩ = some (.int .u8 x) := by rw [hcc u m1]; exact congrArg (fun z => some (Value.int .u8 z)) hX
  have q2 : w.cell? ⟨b, o + v, none⟩ = some (.int .u8 y) := by rw [hcc v m2]; exact congrArg (fun z => some (Value.int .u8 z)) hY
  have s1 : (w.setCell ⟨r, 1, none⟩ (.int .i64 ((p : Int) + 1))).cell? ⟨b, o + u, none⟩ = some (.int .u8 x) := by
    rw [World.cell?_setCell_other _ _ _ _ (far u)]; exact q1
  have s2 : (w.setCell ⟨r, 1, none⟩ (.int .i64 ((p : Int) + 1))).cell? ⟨b, o + v, none⟩ = some (.int .u8 y) := by
    rw [World.cell?_setCell_other _ _ _ _ (far v)]; exact q2
  have s3 : (w.setCell ⟨r, 1, none⟩ (.int .i64 ((p : Int) + 1))).cell? ⟨r, 0, none⟩ = some (.slice (some ⟨b, o, none⟩) code.length c) := by
    rw [World.cell?_setCell_other _ _ _ _ (by simp)]; exact x0
  clear h hc hcc hX hY q1 q2
  have t1 : decide (n < 1) = false := by simp; omega
  have t2 : ((code.length : Int) == 0) = false := beq_eq_false_iff_ne.2 (by omega)
  have t3 : decide ((p : Int) < (code.length : Int)) = false := by simp; omega
  have ln : (n == 0) = false := beq_eq_false_iff_ne.2 (by omega)
  go_enter Tryz.func14, Tryz.ntmps14
  go_wp2
  obtain ⟨d, hd⟩ : ∃ d : Int, d = (p : Int) / (code.length : Int) := ⟨_, rfl⟩
  have hd0 : 0 ≤ d := by rw [hd]; exact Int.ediv_nonneg (by omega) (by omega)
  have hd1 : d ≤ 1000000 := by rw [hd]; exact Int.le_trans (Int.ediv_le_self _ (by omega)) (by omega)
  have b1 : (u : Int) < (code.length : Int) := by omega
  have b2 : (v : Int) < (code.length : Int) := by omega
  have b3 : (0 : Int) ≤ u := by omega
  have b4 : (0 : Int) ≤ v := by omega
  have w1 : IntKind.i64.wrap (x * 131) = x * 131 := IntWalk.i64_in _ (by omega)
  have w2 : IntKind.i64.wrap ((p : Int) * 7) = (p : Int) * 7 := IntWalk.i64_in _ (by omega)
  have w3 : IntKind.i64.wrap ((p : Int) * 7 + 3) = (p : Int) * 7 + 3 := IntWalk.i64_in _ (by omega)
  have w4 : IntKind.i64.wrap (y * 1117) = y * 1117 := IntWalk.i64_in _ (by omega)
  have w5 : IntKind.i64.wrap (x * 131 + y * 1117) = x * 131 + y * 1117 := IntWalk.i64_in _ (by omega)
  have w6 : IntKind.i64.wrap ((p : Int) * 29) = (p : Int) * 29 := IntWalk.i64_in _ (by omega)
  have w7 : IntKind.i64.wrap (x * 131 + y * 1117 + (p : Int) * 29) = x * 131 + y * 1117 + (p : Int) * 29 := IntWalk.i64_in _ (by omega)
  have w8 : IntKind.i64.wrap (d * 53) = d * 53 := IntWalk.i64_in _ (by omega)
  have w9 : IntKind.i64.wrap (x * 131 + y * 1117 + (p : Int) * 29 + d * 53) = x * 131 + y * 1117 + (p : Int) * 29 + d * 53 := IntWalk.i64_in _ (by omega)
  have w10 : (p : Int).tmod (code.length : Int) = u := by rw [Int.tmod_eq_emod_of_nonneg (by omega)]; exact U.out
  have w11 : ((p : Int) * 7 + 3).tmod (code.length : Int) = v := by rw [Int.tmod_eq_emod_of_nonneg (by omega)]; exact V.out
  have w12 : IntKind.i64.wrap ((p : Int).tdiv (code.length : Int)) = d := by rw [Int.tdiv_eq_ediv_of_nonneg (by omega), ← hd]; exact IntWalk.i64_in _ (by omega)
  clear hd
  go_quiet (fail)
  clear w1 w2 w3 w4 w5 w6 w7 w8 w9 w10 w11 w12
  have hB := mix_bounds (x * 131 + y * 1117 + (p : Int) * 29) ((p : Int) / (code.length : Int)) (by omega) (by omega) (Int.ediv_nonneg (by omega) (by omega)) (Int.le_trans (Int.ediv_le_self _ (by omega)) (by omega))
  generalize wrap64 (x * 131 + y * 1117 + (p : Int) * 29 + wrap64 (wrap64 ((p : Int) / (code.length : Int)) * 53)) = X at hB ⊢
  obtain ⟨hB1, hB2⟩ := hB
  obtain ⟨hx1, hx2⟩ := xor_i64 X (X / 64) hB1 (by omega) (by omega) (by omega)
  clear s1 s2 s3 hd0 hd1 b1 b2 b3 b4 x0 x1 x2 x3
  go_wp2
  go_ret
  exact ⟨bits .xor .i64 X (X / 64) % n, Int.emod_nonneg _ (by omega), Int.emod_lt_of_pos _ (by omega), rfl, _, rfl⟩

theorem setCell_two {w : World} {b : Nat} {x y : Value} {t : TypeId} (h : w.heap[b]? = some (.cells #[x, y] t (0, 0))) (v : Value) : (w.setCell ⟨b, 1, none⟩ v).heap[b]? = some (.cells #[x, v] t (0, 0)) := by
  simp [World.setCell, Array.getElem?_modify, h]

/-- Bytes that are read, in blocks below hi. -/
def It.bytes (hi : Nat) (a : Option Addr) (zs : List Int) : It where
  lo := 0
  hi := hi
  P := fun w => NumsAt .u8 w a zs ∧ (0 < zs.length → ∀ p, a = some p → p.block < hi)
  loc := fun w w' _ _ h hp => by
    refine ⟨fun h0 => ?_, hp.2⟩
    obtain ⟨b, off, rfl, hc⟩ := hp.1 h0
    have hb2 := hp.2 h0 _ rfl
    exact ⟨b, off, rfl, fun j hj => (World.cell?_of_block (w := w) (a := ⟨b, off + j, none⟩) (h b (Nat.zero_le _) hb2)).trans (hc j hj)⟩

/-- The reader's own block. -/
abbrev rd (r : Nat) (a : Option Addr) (c : Nat) (code : List Int) (p : Nat) : It := It.box r #[.slice a code.length c, .int .i64 p] 87

/-- PICK: some number below n; the reader is one byte further; all else lies as it lay. -/
theorem pick_any {w0 w : World} {l : List It} {r hi : Nat} {a : Option Addr} {c p : Nat} {code : List Int} (S : St w0 w (rd r a c code p :: It.bytes hi a code :: l)) (ho : CodeOk code) (hr : w0.heap.size ≤ r) (hf : Far (rd r a c code p) (It.bytes hi a code :: l))
    (n : Int) (hn : 1 ≤ n) (hn2 : n ≤ 1000000) (hp : p ≤ 1000000) :
    Calls Tryz.prog 14 #[.pointer (some ⟨r, 0, none⟩), .int .i64 n] w fun e w' => ∃ k : Int, 0 ≤ k ∧ k < n ∧ e = .returned (.int .i64 k) ∧ St w0 w' (rd r a c code (p + 1) :: It.bytes hi a code :: l) := by
  have hb := S.cells 0 rfl
  have hN := (S.get 1 rfl : (It.bytes hi a code).P w)
  have hhi : hi ≤ r := by
    have := hf.1
    simp only [It.bytes, It.box] at this
    have h2 := (S.all (It.bytes hi a code) (by simp)).1
    rcases this with h | h
    · exact h
    · omega
  have hne : 0 < code.length → ∀ q, a = some q → q.block ≠ r := fun h0 q hq => by have := hN.2 h0 q hq; omega
  have key : ∀ q, St w0 ((w.setCell ⟨r, 1, none⟩ (.int .i64 ((p : Int) + 1))).drewN q) (rd r a c code (p + 1) :: It.bytes hi a code :: l) := by
    intro q
    have hg : w.grownBy ((w.setCell ⟨r, 1, none⟩ (.int .i64 ((p : Int) + 1))).drewN q) (some r) := ⟨rfl, rfl, rfl, by simp [World.setCell], fun k _ hk => Below.heap_setCell w _ _ k (fun e => hk (by rw [e]))⟩
    refine S.write hg (fun k e => by cases e; simp [It.box]) hf hr ?_ ?_
    · have := (S.all _ (List.mem_cons_self ..)).1
      simpa [It.box, World.setCell] using this
    · show (w.setCell ⟨r, 1, none⟩ (.int .i64 ((p : Int) + 1))).heap[r]? = _
      exact setCell_two hb _
  by_cases h0 : code.length = 0
  · obtain rfl : code = [] := List.eq_nil_of_length_eq_zero h0
    refine (pick_none r a c p n w hb hp hn).mono ?_
    rintro e w' ⟨rfl, rfl⟩
    exact ⟨0, Int.le_refl _, by omega, rfl, key 0⟩
  · by_cases hlt : p < code.length
    · refine (pick_byte r a c code p n w hb hN.1 ho hlt (hne (by omega)) hn hn2).mono ?_
      rintro e w' ⟨k, h1, h2, rfl, rfl⟩
      exact ⟨k, h1, h2, rfl, key 0⟩
    · refine (pick_mix r a c code p n w hb hN.1 ho (by omega) (by omega) hp (hne (by omega)) hn hn2).mono ?_
      rintro e w' ⟨k, h1, h2, rfl, q, rfl⟩
      exact ⟨k, h1, h2, rfl, key q⟩

end Go.Proofs.YtkdkdmjhhgllgaaGreatDoor

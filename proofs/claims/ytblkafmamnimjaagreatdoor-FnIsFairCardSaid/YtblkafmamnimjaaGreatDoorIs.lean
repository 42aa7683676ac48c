/-
  errors.Is at what the program hands it: the error of a key found, or none; and finds.
-/
import Derived.WalkKit
import Derived.LaidEql
import Derived.Stop.Asserts
import Derived.RowKitTokens
import Derived.Test.YtblkafmamnimjaaGreatDoorLook
namespace Go.Proofs.YtblkafmamnimjaaGreatDoor
open Go.RowKit Go.Extern.Stop Go.Stop Go.Extern

theorem run_eql_iface_int {P : Program} (w : World) {ti tp : TypeId} {ms : Array (String × TypeId)} {i : TypeInfo} (k m : Int) (hi : P.underlying ti = some (.interface ms)) (hp : P.underlying tp = some (.int .i64)) (hinfo : P.info? tp = some i) (hcomp : i.comparable = true) :
    (binOp .eql ti (.iface tp (.int .i64 k)) (.iface tp (.int .i64 m))).run P w = .ok (.bool (k == m)) w := by
  have h : ∀ d : Nat, (Op.equalIn (d + 2) ti (.iface tp (.int .i64 k)) (.iface tp (.int .i64 m))).run P w = .ok (k == m) w := fun d => by
    simp [Op.equalIn, run_underlying hi, run_underlying hp, typeInfo, hinfo, hcomp]
  simp only [binOp]
  simp [Op.equal, Op.maxDepth, h 9998]

theorem isTypeOf : ∀ (v : Value) (w : World), (ReflectliteType.typeOf #[.iface 88 v]).run Tryz.prog w = .ok (.iface 146 (.agg #[.pointer (some ⟨Tryz.prog.globals.size, 88, none⟩)])) w := by intro v w; kernel_rfl
theorem isComparable : ∃ F : Array Value → Sem Value, (∀ (args : Array Value) (w : World), (callFunc 164 args).run Tryz.prog w = ((F args).run Tryz.prog w).andThen fun v w' => .ok (.value v) w') ∧
    ∀ w : World, (F #[.agg #[.pointer (some ⟨Tryz.prog.globals.size, 88, none⟩)]]).run Tryz.prog w = .ok (.bool true) w :=
  ⟨ReflectliteType.method fun t => do Rtype.noPackHeld "Comparable" t; pure (.bool (← typeInfo t).comparable),
    @run_callFunc_extern Tryz.prog 164 _ _ Tryz.func164 (by kernel_rfl) (by kernel_rfl) (by kernel_rfl) (by kernel_rfl), by intro w; kernel_rfl⟩
theorem isMethodComparable (v : Value) (w : World) : (Go.method 303 146 v "Comparable").run Tryz.prog w = .ok (164, v) w := by kernel_rfl
theorem isComp : (Tryz.prog.info? 88).map (·.comparable) = some true := by kernel_rfl
theorem noIsF (v : Value) (xT : TypeId) (w : World) : (Instr.typeAssert (.iface 90 v) xT 168 true).run Tryz.prog w = .ok (.tuple #[.nilIface, .bool false]) w := run_typeAssert_lacksB Tryz.underlying168 (by kernel_rfl) (by kernel_rfl) v xT w
theorem hasUnwrapF (v : Value) (xT : TypeId) (w : World) : (Instr.typeAssert (.iface 90 v) xT 153 true).run Tryz.prog w = .ok (.tuple #[.iface 90 v, .bool true]) w := run_typeAssert_hasB Tryz.underlying153 (by kernel_rfl) v xT w
theorem methodUnwrap (v : Value) (w : World) : (Go.method 303 90 v "Unwrap").run Tryz.prog w = .ok (158, v) w := by kernel_rfl

theorem Unwrap_any (k s : Int) (w : World) :
    Calls Tryz.prog 158 #[.agg #[.int .i64 k, .int .i64 s]] w fun e w' => e = .returned (.iface 88 (.int .i64 k)) ∧ w' = w.alloc (.cells #[.int .i64 k, .int .i64 s] 90) := by
  go_enter Tryz.func158, Tryz.ntmps158
  go_wp2
  go_ret
  exact ⟨rfl, rfl⟩

theorem is_none (k : Int) (w : World) :
    Calls Tryz.prog 96 #[.nilIface, .iface 88 (.int .i64 k)] w fun e w' => e = .returned (.bool false) ∧ w' = w := by
  have hn := run_eql_iface_nil_left (P := Tryz.prog) w 88 (.int .i64 k) Tryz.underlying85
  go_enter Tryz.func96, Tryz.ntmps96
  go_wp2
  go_ret
  exact ⟨rfl, rfl⟩

set_option maxRecDepth 100000 in
set_option maxHeartbeats 4000000 in
theorem is_found (k s : Int) (w : World) :
    Calls Tryz.prog 96 #[.iface 90 (.agg #[.int .i64 k, .int .i64 s]), .iface 88 (.int .i64 k)] w fun e w' => e = .returned (.bool true) ∧ w' = w.alloc (.cells #[.int .i64 k, .int .i64 s] 90) := by
  obtain ⟨i, hi, hcmp⟩ := Option.map_eq_some_iff.1 isComp
  have h8 := @run_callFunc_extern Tryz.prog 122 _ ReflectliteType.typeOf Tryz.func122 (by kernel_rfl) (by kernel_rfl) (by kernel_rfl) (by kernel_rfl)
  obtain ⟨gl, hgl⟩ : ∃ n, n = Tryz.prog.globals.size := ⟨_, rfl⟩
  have tT := isTypeOf
  obtain ⟨F, h32, cT⟩ := isComparable
  simp only [← hgl] at cT
  simp only [← hgl] at tT
  clear hgl
  have mR := isMethodComparable
  have nE := noIsF
  have uE := hasUnwrapF
  have mU := methodUnwrap
  have heq := fun w => run_eql_iface_int (P := Tryz.prog) w k k Tryz.underlying85 Tryz.underlying88 hi hcmp
  have hty := fun w => run_eql_iface_types (P := Tryz.prog) 90 88 (.agg #[.int .i64 k, .int .i64 s]) (.int .i64 k) Tryz.underlying85 (by decide) w
  go_enter Tryz.func96, Tryz.ntmps96
  go_wp2
  refine wp_loop_rounds 2 ?_
  rw [rounds_succ]
  go_wp2
  rw [rounds_succ]
  go_wp2
  go_ret
  exact ⟨rfl, rfl⟩

set_option maxHeartbeats 1000000 in
theorem finds_any (T : Tab) (a : Option Addr) (c : Nat) (key : Int) (w : World) (hv : validB T = true) (h0 : 0 ≤ key) (h9 : key ≤ 99) (h1 : IntsAt w a T.zs) :
    Calls Tryz.prog 61 #[tabV T a c, .int .i64 key] w fun e w' => e = .returned (.bool (decide (0 ≤ findI T key))) ∧ Below w.heap.size w w' := by
  have S0 := ((St.start w).read h1).alloc #[.int .i64 T.t, .int .i64 T.p, .slice a T.zs.length c] 25
  obtain ⟨x0, x1, x2, x3, x4, x5, xz⟩ := facts3 (S0.cells 0 rfl)
  go_enter Tryz.func61, Tryz.ntmps61
  go_wp2_with fail
  refine (look_any T a c key _ hv h0 h9 (by exact S0.reads 1 rfl)).mono ?_
  rintro e w1 ⟨pl, ev, rfl, (⟨k, hk, rfl⟩ | ⟨hk, rfl, hpl⟩), hb⟩
  · have S1 := S0.below hb
    have R : Hid (decide (0 ≤ findI T key) = true) := Lib.hid (by rw [hk]; simp)
    clear x0 x1 x2 x3 x4 x5 xz hk
    go_wp2_with fail
    refine (is_found key k _).mono ?_
    rintro e w2 ⟨rfl, rfl⟩
    go_wp2
    go_ret
    exact ⟨by rw [R.out]; rfl, (S1.old.trans ((Below.refl _ _).alloc S1.old.size _)).trans ((Below.refl _ _).alloc (by have := S1.old.size; simp; omega) _)⟩
  · have S1 := S0.below hb
    have R : Hid (decide (0 ≤ findI T key) = false) := Lib.hid (by rw [hk]; simp)
    clear x0 x1 x2 x3 x4 x5 xz hk hpl
    go_wp2_with fail
    refine (is_none key _).mono ?_
    rintro e w2 ⟨rfl, rfl⟩
    go_wp2
    go_ret
    exact ⟨by rw [R.out]; rfl, S1.old.trans ((Below.refl _ _).alloc S1.old.size _)⟩

end Go.Proofs.YtblkafmamnimjaaGreatDoor

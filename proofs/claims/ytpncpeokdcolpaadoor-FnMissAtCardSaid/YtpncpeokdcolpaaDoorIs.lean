/-
  errors.Is at what the program hands it: the error of a key found, or none; and finds.
-/
import Derived.WalkKit
import Derived.LaidEql
import Derived.Stop.Asserts
import Derived.RowKitTokens
import Derived.Test.YtpncpeokdcolpaaDoorLook
namespace Go.Proofs.YtpncpeokdcolpaaDoor
open Go.RowKit Go.Extern.Stop Go.Stop Go.Extern

theorem run_eql_iface_int {P : Program} (w : World) {ti tp : TypeId} {ms : Array (String × TypeId)} {i : TypeInfo} (k m : Int) (hi : P.underlying ti = some (.interface ms)) (hp : P.underlying tp = some (.int .i64)) (hinfo : P.info? tp = some i) (hcomp : i.comparable = true) :
    (binOp .eql ti (.iface tp (.int .i64 k)) (.iface tp (.int .i64 m))).run P w = .ok (.bool (k == m)) w := by
  have h : ∀ d : Nat, (Op.equalIn (d + 2) ti (.iface tp (.int .i64 k)) (.iface tp (.int .i64 m))).run P w = .ok (k == m) w := fun d => by
    simp [Op.equalIn, run_underlying hi, run_underlying hp, typeInfo, hinfo, hcomp]
  simp only [binOp]
  simp [Op.equal, Op.maxDepth, h 9998]

theorem isTypeOf : ∀ (v : Value) (w : World), (ReflectliteType.typeOf #[.iface 62 v]).run Tryd.prog w = .ok (.iface 96 (.agg #[.pointer (some ⟨Tryd.prog.globals.size, 62, none⟩)])) w := by intro v w; kernel_rfl
theorem isComparable : ∃ F : Array Value → Sem Value, (∀ (args : Array Value) (w : World), (callFunc 91 args).run Tryd.prog w = ((F args).run Tryd.prog w).andThen fun v w' => .ok (.value v) w') ∧
    ∀ w : World, (F #[.agg #[.pointer (some ⟨Tryd.prog.globals.size, 62, none⟩)]]).run Tryd.prog w = .ok (.bool true) w :=
  ⟨ReflectliteType.method fun t => do Rtype.noPackHeld "Comparable" t; pure (.bool (← typeInfo t).comparable),
    @run_callFunc_extern Tryd.prog 91 _ _ Tryd.func91 (by kernel_rfl) (by kernel_rfl) (by kernel_rfl) (by kernel_rfl), by intro w; kernel_rfl⟩
theorem isMethodComparable (v : Value) (w : World) : (Go.method 245 96 v "Comparable").run Tryd.prog w = .ok (91, v) w := by kernel_rfl
theorem isComp : (Tryd.prog.info? 62).map (·.comparable) = some true := by kernel_rfl
theorem hasUnwrapF (v : Value) (xT : TypeId) (w : World) : (Instr.typeAssert (.iface 64 v) xT 104 true).run Tryd.prog w = .ok (.tuple #[.iface 64 v, .bool true]) w := run_typeAssert_hasB Tryd.underlying104 (by kernel_rfl) v xT w
theorem methodUnwrap (v : Value) (w : World) : (Go.method 245 64 v "Unwrap").run Tryd.prog w = .ok (84, v) w := by kernel_rfl

theorem Unwrap_any (k s : Int) (w : World) :
    Calls Tryd.prog 84 #[.agg #[.int .i64 k, .int .i64 s]] w fun e w' => e = .returned (.iface 62 (.int .i64 k)) ∧ w' = w.alloc (.cells #[.int .i64 k, .int .i64 s] 64) := by
  go_enter Tryd.func84, Tryd.ntmps84
  go_wp2
  go_ret
  exact ⟨rfl, rfl⟩

end Go.Proofs.YtpncpeokdcolpaaDoor

/- The program's errors: three sentinels; errors.Is at them, errors.As at them and a target of another type. -/
import Derived.Test.YtgndekojodpmkaaDoorKa
import Derived.LaidEql
import Derived.Stop.Asserts
import Derived.RowKitTokens
namespace Go.Proofs.YtgndekojodpmkaaDoor
open Go.RowKit Go.Deep Go.Extern.Stop Go.Stop Go.Extern
set_option linter.unusedVariables false

/-- An error of errors.New's make. -/
abbrev errAt (a : Addr) : Value := .iface 190 (.pointer (some a))
/-- What stands for a type. -/
abbrev hdl (t : TypeId) : Value := .pointer (some ⟨7, t, none⟩)
def Blk (w : World) (a : Addr) : Prop := ∃ cs ty, w.heap[a.block]? = some (.cells cs ty (0, 0))
structure Sent (w : World) (g : Nat) (a : Addr) : Prop where
  cell : w.cell? ⟨g, 0, none⟩ = some (errAt a)
  blk : Blk w a
def Handle (w : World) : Prop := w.cell? ⟨3, 0, none⟩ = some (.iface 172 (.agg #[hdl 65]))
theorem Blk.step {w w' : World} {a : Addr} (h : Blk w a) (hb : Below w.heap.size w w') : Blk w' a := by
  obtain ⟨cs, ty, h⟩ := h
  exact ⟨cs, ty, (hb.block _ (Array.getElem?_eq_some_iff.1 h).1).trans h⟩
theorem Sent.step {w w' : World} {g : Nat} {a : Addr} (h : Sent w g a) (hb : Below w.heap.size w w') : Sent w' g a := ⟨cell_step hb h.cell, h.blk.step hb⟩
theorem Handle.step {w w' : World} (h : Handle w) (hb : Below w.heap.size w w') : Handle w' := cell_step hb h

/-! errors.Is. -/
theorem e_isTypeOf (v : Value) (w : World) : (Extern.ReflectliteType.typeOf #[.iface 190 v]).run Tryd.prog w = .ok (.iface 172 (.agg #[hdl 190])) w := by kernel_rfl
theorem e_isComparable (w : World) : ((Extern.ReflectliteType.method fun t => do Rtype.noPackHeld "Comparable" t; (fun a => Value.bool a.comparable) <$> typeInfo t) #[.agg #[hdl 190]]).run Tryd.prog w = .ok (.bool true) w := by kernel_rfl
set_option maxRecDepth 100000 in
theorem e_methodComparable (n : Nat) (v : Value) (w : World) : (Go.method (n + 1) 172 v "Comparable").run Tryd.prog w = .ok (159, v) w := by first | rfl | kernel_rfl
theorem e_isComp : (Tryd.prog.info? 190).map (·.comparable) = some true := by kernel_rfl
theorem e_isSize : (Tryd.prog.info? 210).map (·.size) = some 1 := by kernel_rfl
theorem e_noIs (v : Value) (xT : TypeId) (w : World) : (Instr.typeAssert (.iface 190 v) xT 183 true).run Tryd.prog w = .ok (.tuple #[.nilIface, .bool false]) w := run_typeAssert_lacksB Tryd.underlying183 (by kernel_rfl) (by kernel_rfl) v xT w
theorem e_noUnwrap (v : Value) (xT : TypeId) (w : World) : (Instr.typeAssert (.iface 190 v) xT 179 true).run Tryd.prog w = .ok (.tuple #[.nilIface, .bool false]) w := run_typeAssert_lacksB Tryd.underlying179 (by kernel_rfl) (by kernel_rfl) v xT w
theorem e_noUnwraps (v : Value) (xT : TypeId) (w : World) : (Instr.typeAssert (.iface 190 v) xT 181 true).run Tryd.prog w = .ok (.tuple #[.nilIface, .bool false]) w := run_typeAssert_lacksB Tryd.underlying181 (by kernel_rfl) (by kernel_rfl) v xT w
theorem e_noAs (v : Value) (xT : TypeId) (w : World) : (Instr.typeAssert (.iface 190 v) xT 176 true).run Tryd.prog w = .ok (.tuple #[.nilIface, .bool false]) w := run_typeAssert_lacksB Tryd.underlying176 (by kernel_rfl) (by kernel_rfl) v xT w

set_option maxRecDepth 100000 in
theorem is_same (a : Addr) (w : World) :
    Calls Tryd.prog 82 #[errAt a, errAt a] w fun e w' => e = .returned (.bool true) ∧ w = w' := by
  obtain ⟨i, hi, hcmp⟩ := Option.map_eq_some_iff.1 e_isComp
  obtain ⟨j, hj, hjs⟩ := Option.map_eq_some_iff.1 e_isSize
  have h8 := @run_callFunc_extern Tryd.prog 117 _ Extern.ReflectliteType.typeOf Tryd.func117 (by kernel_rfl) (by kernel_rfl) (by kernel_rfl) (by kernel_rfl)
  have h32 := @run_callFunc_extern Tryd.prog 159 _ (Extern.ReflectliteType.method fun t => do Rtype.noPackHeld "Comparable" t; pure (.bool (← typeInfo t).comparable)) Tryd.func159 (by kernel_rfl) (by kernel_rfl) (by kernel_rfl) (by kernel_rfl)
  have tT := e_isTypeOf
  have cT := e_isComparable
  have mR := e_methodComparable
  have heq := run_eql_iface_ptr_same (P := Tryd.prog) w a Tryd.underlying65 Tryd.underlying190 hi hcmp hj
  go_enter Tryd.func82, Tryd.ntmps82
  go_wp2
  refine wp_loop_rounds 1 ?_
  rw [rounds_succ]
  go_wp2
  go_ret
  exact ⟨rfl, rfl⟩
set_option maxRecDepth 100000 in
theorem is_other (a b : Addr) (w : World) (hne : a ≠ b) (ha : Blk w a) (hb : Blk w b) :
    Calls Tryd.prog 82 #[errAt a, errAt b] w fun e w' => e = .returned (.bool false) ∧ w = w' := by
  obtain ⟨ca, ta, ha⟩ := ha
  obtain ⟨cb, tb, hb⟩ := hb
  obtain ⟨i, hi, hcmp⟩ := Option.map_eq_some_iff.1 e_isComp
  obtain ⟨j, hj, hjs⟩ := Option.map_eq_some_iff.1 e_isSize
  have h8 := @run_callFunc_extern Tryd.prog 117 _ Extern.ReflectliteType.typeOf Tryd.func117 (by kernel_rfl) (by kernel_rfl) (by kernel_rfl) (by kernel_rfl)
  have h32 := @run_callFunc_extern Tryd.prog 159 _ (Extern.ReflectliteType.method fun t => do Rtype.noPackHeld "Comparable" t; pure (.bool (← typeInfo t).comparable)) Tryd.func159 (by kernel_rfl) (by kernel_rfl) (by kernel_rfl) (by kernel_rfl)
  have tT := e_isTypeOf
  have cT := e_isComparable
  have mR := e_methodComparable
  have nE := e_noIs
  have uE := e_noUnwrap
  have vE := e_noUnwraps
  have heq := run_eql_iface_ptr_other (P := Tryd.prog) w Tryd.underlying65 Tryd.underlying190 hi hcmp hj (by rw [hjs]; decide) hne ha hb
  go_enter Tryd.func82, Tryd.ntmps82
  go_wp2
  refine wp_loop_rounds 1 ?_
  rw [rounds_succ]
  go_wp2
  go_ret
  exact ⟨rfl, rfl⟩

/-! errors.As at a target that is a variable of the program's own type of error. -/
theorem e_valueOf (t : Addr) (w : World) : (ReflectliteValue.unpack (.iface 118 (.pointer (some t)))).run Tryd.prog w
    = .ok (.agg #[hdl 118, .pointer (some ⟨w.heap.size, 0, none⟩), .int .u64 150]) (w.alloc (.cells #[.pointer (some t)] 118)) := by kernel_rfl
theorem e_type (a : Addr) (w : World) : (ReflectliteValue.methodAny (ReflectliteValue.valueError "reflectlite.Value.Type" 0) (fun t _ _ _ => ReflectliteType.toType t) #[.agg #[hdl 118, .pointer (some a), .int .u64 150]]).run Tryd.prog w
    = .ok (.iface 172 (.agg #[hdl 118])) w := by kernel_rfl
set_option maxRecDepth 100000 in
theorem e_methodKind (n : Nat) (h : Value) (w : World) : (Go.method (n + 2) 172 (.agg #[h]) "Kind").run Tryd.prog w = .ok (145, h) w := by first | rfl | kernel_rfl
set_option maxRecDepth 100000 in
theorem e_methodElem (n : Nat) (h : Value) (w : World) : (Go.method (n + 1) 172 (.agg #[h]) "Elem").run Tryd.prog w = .ok (160, .agg #[h]) w := by first | rfl | kernel_rfl
set_option maxRecDepth 100000 in
theorem e_methodImplements (n : Nat) (h : Value) (w : World) : (Go.method (n + 1) 172 (.agg #[h]) "Implements").run Tryd.prog w = .ok (161, .agg #[h]) w := by first | rfl | kernel_rfl
set_option maxRecDepth 100000 in
theorem e_methodAssignableTo (n : Nat) (h : Value) (w : World) : (Go.method (n + 1) 172 (.agg #[h]) "AssignableTo").run Tryd.prog w = .ok (158, .agg #[h]) w := by first | rfl | kernel_rfl
theorem e_kindP (w : World) : ((ReflectliteType.abiMethod fun t => (fun a : Nat => Value.int IntKind.u8 (a : Int)) <$> Rtype.kind t) #[hdl 118]).run Tryd.prog w = .ok (.int .u8 22) w := by kernel_rfl
theorem e_kindS (w : World) : ((ReflectliteType.abiMethod fun t => (fun a : Nat => Value.int IntKind.u8 (a : Int)) <$> Rtype.kind t) #[hdl 116]).run Tryd.prog w = .ok (.int .u8 25) w := by kernel_rfl
theorem rlm (z : Sem Value) (f : TypeId → Addr → Nat → Nat → Sem Value) (v : Value) :
    ReflectliteValue.method z f #[v] = (do match ← ReflectliteValue.parts v with | none => z | some (t, a, fl) => f t a fl (fl % 32)) := rfl
theorem e_parts (a : Addr) (w : World) : (ReflectliteValue.parts (.agg #[hdl 118, .pointer (some a), .int .u64 150])).run Tryd.prog w = .ok (some (118, a, 150)) w := by kernel_rfl
theorem e_isNil (a p : Addr) (W : World) (ha : W.cell? a = some (.pointer (some p))) :
    (ReflectliteValue.method (ReflectliteValue.valueError "reflectlite.Value.IsNil" 0) ReflectliteValue.isNil #[.agg #[hdl 118, .pointer (some a), .int .u64 150]]).run Tryd.prog W = .ok (.bool false) W := by
  rw [rlm]
  simp only [Sem.run_bind, e_parts, Result.andThen]
  simp [ReflectliteValue.isNil, loadVar, isAgg, underlying, Tryd.underlying118, ha, Result.andThen]
theorem e_elem (w : World) : (ReflectliteType.method ReflectliteType.elem #[.agg #[hdl 118]]).run Tryd.prog w = .ok (.iface 172 (.agg #[hdl 116])) w := by kernel_rfl
theorem e_implements (w : World) : (ReflectliteType.relation "Implements" ReflectliteType.implements_ #[.agg #[hdl 116], .iface 172 (.agg #[hdl 65])]).run Tryd.prog w = .ok (.bool true) w := by kernel_rfl
theorem e_assignable (w : World) : (ReflectliteType.relation "AssignableTo" ReflectliteType.assignableTo #[.agg #[hdl 190], .iface 172 (.agg #[hdl 116])]).run Tryd.prog w = .ok (.bool false) w := by kernel_rfl
set_option maxRecDepth 100000 in
set_option maxHeartbeats 4000000 in
theorem as_miss (a t : Addr) (w : World) (hg : Handle w) :
    Calls Tryd.prog 81 #[errAt a, .iface 118 (.pointer (some t))] w fun e w' => e = .returned (.bool false) ∧ Below w.heap.size w w' := by
  have h6 := @run_callFunc_extern Tryd.prog 113 _ (fun args => ReflectliteValue.unpack (args.getD 0 (.tuple #[]))) Tryd.func113 (by kernel_rfl) (by kernel_rfl) (by kernel_rfl) (by kernel_rfl)
  have h7 := @run_callFunc_extern Tryd.prog 114 _ (ReflectliteValue.methodAny (ReflectliteValue.valueError "reflectlite.Value.Type" 0) (fun t _ _ _ => ReflectliteType.toType t)) Tryd.func114 (by kernel_rfl) (by kernel_rfl) (by kernel_rfl) (by kernel_rfl)
  have h8 := @run_callFunc_extern Tryd.prog 115 _ (ReflectliteValue.method (ReflectliteValue.valueError "reflectlite.Value.IsNil" 0) ReflectliteValue.isNil) Tryd.func115 (by kernel_rfl) (by kernel_rfl) (by kernel_rfl) (by kernel_rfl)
  have h27 := @run_callFunc_extern Tryd.prog 145 _ (ReflectliteType.abiMethod fun t => do pure (.int .u8 (← Rtype.kind t))) Tryd.func145 (by kernel_rfl) (by kernel_rfl) (by kernel_rfl) (by kernel_rfl)
  have h37 := @run_callFunc_extern Tryd.prog 160 _ (ReflectliteType.method ReflectliteType.elem) Tryd.func160 (by kernel_rfl) (by kernel_rfl) (by kernel_rfl) (by kernel_rfl)
  have h38 := @run_callFunc_extern Tryd.prog 161 _ (ReflectliteType.relation "Implements" ReflectliteType.implements_) Tryd.func161 (by kernel_rfl) (by kernel_rfl) (by kernel_rfl) (by kernel_rfl)
  have h10 := @run_callFunc_extern Tryd.prog 117 _ ReflectliteType.typeOf Tryd.func117 (by kernel_rfl) (by kernel_rfl) (by kernel_rfl) (by kernel_rfl)
  have h35 := @run_callFunc_extern Tryd.prog 158 _ (ReflectliteType.relation "AssignableTo" ReflectliteType.assignableTo) Tryd.func158 (by kernel_rfl) (by kernel_rfl) (by kernel_rfl) (by kernel_rfl)
  have f6 := e_valueOf
  have f7 := e_type
  have mK := e_methodKind
  have mE := e_methodElem
  have mI := e_methodImplements
  have mA := e_methodAssignableTo
  have kP := e_kindP
  have kS := e_kindS
  have eP := e_elem
  have iS := e_implements
  have aS := e_assignable
  have tO := e_isTypeOf
  have nA := e_noAs
  have nU := e_noUnwrap
  have nV := e_noUnwraps
  have n8 := e_isNil ⟨w.heap.size, 0, none⟩ t ((w.alloc (.cells #[.pointer (some t)] 118)).alloc (.cells #[hdl 118, .pointer (some ⟨w.heap.size, 0, none⟩), .int .u64 150] 149)) (by simp)
  have hb2 := ((Below.refl w.heap.size w).alloc (Nat.le_refl _) (.cells #[.pointer (some t)] 118)).alloc (by simp) (.cells #[hdl 118, .pointer (some ⟨w.heap.size, 0, none⟩), .int .u64 150] 149)
  have hg2 : ((w.alloc (.cells #[.pointer (some t)] 118)).alloc (.cells #[hdl 118, .pointer (some ⟨w.heap.size, 0, none⟩), .int .u64 150] 149)).cell? ⟨3, 0, none⟩ = some (.iface 172 (.agg #[hdl 65])) := cell_step hb2 hg
  have HB3 := Lib.hid (hb2.alloc (by simp; omega) (.cells #[hdl 118, .pointer (some ⟨w.heap.size, 0, none⟩), .int .u64 150] 149))
  clear hb2
  go_enter Tryd.func81, Tryd.ntmps81
  go_wp2
  refine wp_loop_rounds 1 ?_
  rw [rounds_succ]
  go_wp2
  go_ret
  exact ⟨rfl, HB3.out⟩
end Go.Proofs.YtgndekojodpmkaaDoor

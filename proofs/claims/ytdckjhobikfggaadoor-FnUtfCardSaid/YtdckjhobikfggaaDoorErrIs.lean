/- errors.Is on the program's own wrapped errors: contracts. The two sentinels lie at two addresses. -/
import Derived.Test.YtdckjhobikfggaaDoorRunesA
import Derived.LaidEql
import Derived.Stop.Asserts
import Derived.RowKitTokens
namespace Go.Proofs.YtdckjhobikfggaaDoor
open Go.RowKit Go.Extern.Stop Go.Stop Go.Extern

theorem isTypeOf (v : Value) (w : World) : (callFunc 106 #[.iface 199 v]).run Tryd.prog w = .ok (.value (.iface 168 (.agg #[.pointer (some ⟨6, 199, none⟩)]))) w := by kernel_rfl
theorem isComparable (w : World) : (callFunc 181 #[.agg #[.pointer (some ⟨6, 199, none⟩)]]).run Tryd.prog w = .ok (.value (.bool true)) w := by kernel_rfl
theorem isMethodComparable (v : Value) (w : World) : (Go.method 329 168 v "Comparable").run Tryd.prog w = .ok (181, v) w := by kernel_rfl
theorem methodUnwrap (v : Value) (w : World) : (Go.method 329 99 v "Unwrap").run Tryd.prog w = .ok (173, v) w := by kernel_rfl
theorem isComp : (Tryd.prog.info? 199).map (·.comparable) = some true := by kernel_rfl
theorem isSize : (Tryd.prog.info? 217).map (·.size) = some 1 := by kernel_rfl

theorem noIsE (v : Value) (xT : TypeId) (w : World) : (Instr.typeAssert (.iface 199 v) xT 180 true).run Tryd.prog w = .ok (.tuple #[.nilIface, .bool false]) w := run_typeAssert_lacksB Tryd.underlying180 (by kernel_rfl) (by kernel_rfl) v xT w
theorem noUnwrapE (v : Value) (xT : TypeId) (w : World) : (Instr.typeAssert (.iface 199 v) xT 175 true).run Tryd.prog w = .ok (.tuple #[.nilIface, .bool false]) w := run_typeAssert_lacksB Tryd.underlying175 (by kernel_rfl) (by kernel_rfl) v xT w
theorem noUnwrapsE (v : Value) (xT : TypeId) (w : World) : (Instr.typeAssert (.iface 199 v) xT 177 true).run Tryd.prog w = .ok (.tuple #[.nilIface, .bool false]) w := run_typeAssert_lacksB Tryd.underlying177 (by kernel_rfl) (by kernel_rfl) v xT w
theorem noIsW (v : Value) (xT : TypeId) (w : World) : (Instr.typeAssert (.iface 99 v) xT 180 true).run Tryd.prog w = .ok (.tuple #[.nilIface, .bool false]) w := run_typeAssert_lacksB Tryd.underlying180 (by kernel_rfl) (by kernel_rfl) v xT w
theorem hasUnwrapW (v : Value) (xT : TypeId) (w : World) : (Instr.typeAssert (.iface 99 v) xT 175 true).run Tryd.prog w = .ok (.tuple #[.iface 99 v, .bool true]) w := run_typeAssert_hasB Tryd.underlying175 (by kernel_rfl) v xT w

/-- The value of a fault at a place. -/
def faultV (at' : Int) (a : Addr) : Value := .iface 99 (.agg #[.int .i64 at', .iface 199 (.pointer (some a))])

theorem fault_Unwrap (at' : Int) (a : Addr) (w : World) :
    Calls Tryd.prog 173 #[.agg #[.int .i64 at', .iface 199 (.pointer (some a))]] w fun e w' => e = .returned (.iface 199 (.pointer (some a))) ∧ Below w.heap.size w w' := by
  go_enter Tryd.func173, Tryd.ntmps173
  go_wp2
  go_ret
  exact ⟨rfl, (Below.refl _ _).alloc (Nat.le_refl _) _⟩

set_option maxHeartbeats 1000000 in
set_option maxRecDepth 100000 in
theorem isl_same (at' : Int) (b : Addr) (w : World) :
    Calls Tryd.prog 107 #[faultV at' b, .iface 199 (.pointer (some b)), .bool true] w fun e w' => e = .returned (.bool true) ∧ Below w.heap.size w w' := by
  obtain ⟨i, hi, hcmp⟩ := Option.map_eq_some_iff.1 isComp
  obtain ⟨j, hj, hjs⟩ := Option.map_eq_some_iff.1 isSize
  have nW := noIsW
  have uW := hasUnwrapW
  have mU := methodUnwrap
  have heq := fun w => run_eql_iface_ptr_same (P := Tryd.prog) w b Tryd.underlying69 Tryd.underlying199 hi hcmp hj
  have hty := fun v => run_eql_iface_types (P := Tryd.prog) 99 199 v (.pointer (some b)) Tryd.underlying69 (by decide) w
  unfold faultV
  go_enter Tryd.func107, Tryd.ntmps107
  go_wp2
  refine wp_loop_rounds 2 ?_
  rw [rounds_succ]
  go_wp2_with (go_at_call 173; refine (fault_Unwrap _ _ _).mono ?_; rintro e w1 ⟨rfl, b1⟩)
  rw [rounds_succ]
  go_wp2
  go_ret
  exact ⟨rfl, b1⟩

/-- A block of cells that may be compared by its address. -/
def Row (w : World) (a : Addr) : Prop := ∃ ca ta, w.heap[a.block]? = some (.cells ca ta (0, 0))
theorem Row.keep {w w' : World} {a : Addr} (h : Row w a) (hb : Below w.heap.size w w') : Row w' a := by
  obtain ⟨ca, ta, h⟩ := h
  exact ⟨ca, ta, by rw [hb.block _ (Array.getElem?_eq_some_iff.1 h).1]; exact h⟩

set_option maxHeartbeats 1000000 in
set_option maxRecDepth 100000 in
theorem isl_other (at' : Int) (a b : Addr) (w : World) (hne : a ≠ b) (ha : Row w a) (hb : Row w b) :
    Calls Tryd.prog 107 #[faultV at' a, .iface 199 (.pointer (some b)), .bool true] w fun e w' => e = .returned (.bool false) ∧ Below w.heap.size w w' := by
  obtain ⟨i, hi, hcmp⟩ := Option.map_eq_some_iff.1 isComp
  obtain ⟨j, hj, hjs⟩ := Option.map_eq_some_iff.1 isSize
  have nW := noIsW
  have uW := hasUnwrapW
  have mU := methodUnwrap
  have nE := noIsE
  have uE := noUnwrapE
  have vE := noUnwrapsE
  have hty := fun v => run_eql_iface_types (P := Tryd.prog) 99 199 v (.pointer (some b)) Tryd.underlying69 (by decide) w
  have HA := Lib.hid ha
  have HB := Lib.hid hb
  have HNE := Lib.hid hne
  clear ha hb hne
  unfold faultV
  go_enter Tryd.func107, Tryd.ntmps107
  go_wp2
  refine wp_loop_rounds 2 ?_
  rw [rounds_succ]
  go_wp2_with (go_at_call 173; refine (fault_Unwrap _ _ _).mono ?_; rintro e w1 ⟨rfl, b1⟩)
  clear hty
  obtain ⟨ca, ta, ha⟩ := HA.out.keep b1
  obtain ⟨cb, tb, hb⟩ := HB.out.keep b1
  have heq := run_eql_iface_ptr_other (P := Tryd.prog) w1 Tryd.underlying69 Tryd.underlying199 hi hcmp hj (by rw [hjs]; decide) HNE.out ha hb
  clear ha hb
  rw [rounds_succ]
  go_wp2
  go_ret
  exact ⟨rfl, b1⟩

set_option maxHeartbeats 1000000 in
set_option maxRecDepth 100000 in
theorem is_same (at' : Int) (b : Addr) (w : World) :
    Calls Tryd.prog 78 #[faultV at' b, .iface 199 (.pointer (some b))] w fun e w' => e = .returned (.bool true) ∧ Below w.heap.size w w' := by
  have tT := isTypeOf
  have cT := isComparable
  have mR := isMethodComparable
  have hI := Lib.hid (isl_same at' b)
  unfold faultV at *
  go_enter Tryd.func78, Tryd.ntmps78
  go_wp2_with fail
  refine (hI.out _).mono ?_
  rintro e w1 ⟨rfl, b1⟩
  go_wp2
  go_ret
  exact ⟨rfl, b1⟩

set_option maxHeartbeats 1000000 in
set_option maxRecDepth 100000 in
theorem is_other (at' : Int) (a b : Addr) (w : World) (hne : a ≠ b) (ha : Row w a) (hb : Row w b) :
    Calls Tryd.prog 78 #[faultV at' a, .iface 199 (.pointer (some b))] w fun e w' => e = .returned (.bool false) ∧ Below w.heap.size w w' := by
  have tT := isTypeOf
  have cT := isComparable
  have mR := isMethodComparable
  have hI := Lib.hid (isl_other at' a b w hne ha hb)
  clear hne ha hb
  unfold faultV at *
  go_enter Tryd.func78, Tryd.ntmps78
  go_wp2_with fail
  refine hI.out.mono ?_
  rintro e w1 ⟨rfl, b1⟩
  go_wp2
  go_ret
  exact ⟨rfl, b1⟩

/-- The two sentinels, where the program's text lays them: a: truncated, b: invalid. -/
def Sents (w : World) (a b : Addr) : Prop :=
  w.cell? ⟨0, 0, none⟩ = some (.iface 199 (.pointer (some a))) ∧ w.cell? ⟨2, 0, none⟩ = some (.iface 199 (.pointer (some b))) ∧ a ≠ b ∧ Row w a ∧ Row w b
theorem Sents.keep {w w' : World} {a b : Addr} (h : Sents w a b) (hb : Below w.heap.size w w') : Sents w' a b := by
  obtain ⟨h1, h2, h3, h4, h5⟩ := h
  exact ⟨by rw [hb.cell (World.block_lt_of_cell? w _ h1)]; exact h1, by rw [hb.cell (World.block_lt_of_cell? w _ h2)]; exact h2, h3, h4.keep hb, h5.keep hb⟩

theorem faultCode_short (at' : Int) (a b : Addr) (w : World) (hs : Sents w a b) : Calls Tryd.prog 44 #[faultV at' a] w fun e w' => e = .returned (.int .i64 13) ∧ Below w.heap.size w w' := by
  obtain ⟨h1, _, _, _, _⟩ := hs
  have hI := Lib.hid (is_same at' a)
  unfold faultV at *
  go_enter Tryd.func44, Tryd.ntmps44
  go_wp2_with fail
  refine (hI.out _).mono ?_
  rintro e w1 ⟨rfl, b1⟩
  go_wp2
  go_ret
  exact ⟨rfl, b1⟩

theorem faultCode_utf (at' : Int) (a b : Addr) (w : World) (hs : Sents w a b) : Calls Tryd.prog 44 #[faultV at' b] w fun e w' => e = .returned (.int .i64 16) ∧ Below w.heap.size w w' := by
  obtain ⟨h1, _, h3, h4, h5⟩ := hs
  have hI := Lib.hid (is_other at' b a w h3.symm h5 h4)
  clear h3 h4 h5
  unfold faultV at *
  go_enter Tryd.func44, Tryd.ntmps44
  go_wp2_with fail
  refine hI.out.mono ?_
  rintro e w1 ⟨rfl, b1⟩
  go_wp2
  go_ret
  exact ⟨rfl, b1⟩

end Go.Proofs.YtdckjhobikfggaaDoor

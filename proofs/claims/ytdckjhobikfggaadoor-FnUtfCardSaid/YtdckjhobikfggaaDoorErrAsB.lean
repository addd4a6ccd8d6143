/- errors.As on the program's own fault: the variable is set; the contract of faultOffset. -/
import Derived.Test.YtdckjhobikfggaaDoorErrAs
namespace Go.Proofs.YtdckjhobikfggaaDoor
open Go.RowKit Go.Extern.Stop Go.Stop Go.Extern

theorem rls (v x : Value) : ReflectliteValue.set #[v, x] = (do
    let (some (dst, a, fl), some (src, b, _)) := (← ReflectliteValue.parts v, ← ReflectliteValue.parts x)
      | unsupported (.noEntry "extern/(internal/reflectlite.Value).Set.zeroValue")
    if fl / ReflectliteValue.flagAddr % 2 == 0 then unsupported (.noEntry "extern/(internal/reflectlite.Value).Set.unaddressable")
    let val ← loadVar src b
    if ← Rtype.directlyAssignable dst src then storeVar dst a val
    else if ← Rtype.implements dst src then
      if (← Rtype.kind src) == 20 then
        match val with
        | .nilIface => unsupported (.noEntry "extern/reflectlite: a nil value of one interface type handed on as a value of another")
        | _ => storeVar dst a val
      else storeVar dst a (.iface src val)
    else panicString ("reflectlite.Set: value of type " ++ (← Rtype.spelt src) ++ " is not assignable to type " ++ (← Rtype.spelt dst))
    pure (.tuple #[])) := rfl
theorem asDirect (w : World) : (Rtype.directlyAssignable 99 99).run Tryd.prog w = .ok true w := by kernel_rfl
theorem asSet (t b : Nat) (n : Int) (e : Addr) (y0 y1 : Value) (W : World) (hb : W.heap[b]? = some (.cells #[.int .i64 n, .iface 199 (.pointer (some e))] 99)) (ht : W.heap[t]? = some (.cells #[y0, y1] 99)) :
    (callFunc 128 #[.agg #[.pointer (some ⟨6, 99, none⟩), .pointer (some ⟨t, 0, none⟩), .int .u64 409], .agg #[.pointer (some ⟨6, 99, none⟩), .pointer (some ⟨b, 0, none⟩), .int .u64 153]]).run Tryd.prog W
      = .ok (.value (.tuple #[])) ((W.setCell ⟨t, 0, none⟩ (.int .i64 n)).setCell ⟨t, 1, none⟩ (.iface 199 (.pointer (some e)))) := by
  have h12 := @run_callFunc_extern Tryd.prog 128 _ ReflectliteValue.set Tryd.func128 (by kernel_rfl) (by kernel_rfl) (by kernel_rfl) (by kernel_rfl)
  rw [h12, rls]
  simp only [Sem.run_bind, asPartsD, asPartsS, Result.andThen]
  have hl := run_loadCells_list (P := Tryd.prog) W ⟨b, 0, none⟩ [.int .i64 n, .iface 199 (.pointer (some e))] (fun j v hj => by
    have ha : (⟨b, 0, none⟩ : Addr).add j = ⟨b, j, none⟩ := by
      unfold Addr.add
      split
      · next h => rw [h]
      · simp
    rw [ha, cell_of_row W b j _ _ _ hb]; simpa using hj)
  have t0 : W.cell? ⟨t, 0, none⟩ = some y0 := by rw [cell_of_row W t 0 _ _ _ ht]; rfl
  have t1 : W.cell? ⟨t, 1, none⟩ = some y1 := by rw [cell_of_row W t 1 _ _ _ ht]; rfl
  have f0 : W.frozen? ⟨t, 0, none⟩ = false := frozen_of_row W t 0 _ _ ht
  have f1 : W.frozen? ⟨t, 1, none⟩ = false := frozen_of_row W t 1 _ _ ht
  simp only [List.length_cons, List.length_nil, Nat.zero_add] at hl
  simp [ReflectliteValue.flagAddr, loadVar, isAgg, underlying, Tryd.underlying99, Result.andThen, asDirect, storeVar, Value.cells]
  rw [hl]
  have a0 : (⟨t, 0, none⟩ : Addr).add 0 = ⟨t, 0, none⟩ := by simp [Addr.add]
  have a1 : (⟨t, 0, none⟩ : Addr).add 1 = ⟨t, 1, none⟩ := by simp [Addr.add]
  have ht' : (W.setCell ⟨t, 0, none⟩ (.int .i64 n)).heap[t]? = some (.cells #[.int .i64 n, y1] 99) := heap_setCell_same W t 0 _ _ _ ht
  have t1' : (W.setCell ⟨t, 0, none⟩ (.int .i64 n)).cell? ⟨t, 1, none⟩ = some y1 := by rw [cell_of_row _ t 1 _ _ _ ht']; rfl
  have f1' : (W.setCell ⟨t, 0, none⟩ (.int .i64 n)).frozen? ⟨t, 1, none⟩ = false := frozen_of_row _ t 1 _ _ ht'
  simp [storeCells]
  rw [a0, a1, run_store Tryd.prog W ⟨t, 0, none⟩ _ _ rfl, t0]
  simp only [f0, Result.andThen, Bool.false_eq_true, if_false]
  rw [run_store Tryd.prog _ ⟨t, 1, none⟩ _ _ rfl, t1']
  simp [f1']

/-- What the variable holds behind it, and that nothing below it has turned. -/
theorem set_two (t : Nat) (v0 v1 y0 y1 : Value) (W : World) (ht : W.heap[t]? = some (.cells #[y0, y1] 99)) :
    ((W.setCell ⟨t, 0, none⟩ v0).setCell ⟨t, 1, none⟩ v1).heap[t]? = some (.cells #[v0, v1] 99) ∧ Below t W ((W.setCell ⟨t, 0, none⟩ v0).setCell ⟨t, 1, none⟩ v1) := by
  have h1 : (W.setCell ⟨t, 0, none⟩ v0).heap[t]? = some (.cells #[v0, y1] 99) := heap_setCell_same W t 0 _ _ _ ht
  refine ⟨heap_setCell_same _ t 1 _ _ _ h1, ?_⟩
  exact ((Below.refl t W).setCell (p := ⟨t, 0, none⟩) (Nat.le_refl _) v0).setCell (p := ⟨t, 1, none⟩) (Nat.le_refl _) v1

set_option maxHeartbeats 2000000 in
set_option maxRecDepth 100000 in
theorem asl_hit (n : Int) (e : Addr) (t c : Nat) (y0 y1 : Value) (w : World) (hc : w.cell? ⟨c, 0, none⟩ = some (.pointer (some ⟨t, 0, none⟩))) (ht : w.heap[t]? = some (.cells #[y0, y1] 99)) :
    Calls Tryd.prog 105 #[.iface 99 (.agg #[.int .i64 n, .iface 199 (.pointer (some e))]), .iface 101 (.pointer (some ⟨t, 0, none⟩)), .agg #[.pointer (some ⟨6, 101, none⟩), .pointer (some ⟨c, 0, none⟩), .int .u64 150], .iface 168 (.agg #[.pointer (some ⟨6, 99, none⟩)])] w
      fun ev w' => ev = .returned (.bool true) ∧ w'.heap[t]? = some (.cells #[.int .i64 n, .iface 199 (.pointer (some e))] 99) ∧ Below t w w' := by
  have htl : t < w.heap.size := (Array.getElem?_eq_some_iff.1 ht).1
  have hcl := World.block_lt_of_cell? w _ hc
  have tO := asTypeOf
  have mA := asMethodAssignable
  have aS := asAssignable
  have vE := asValueOfE
  generalize hX : (Obj.cells #[.pointer (some ⟨6, 101, none⟩), .pointer (some ⟨c, 0, none⟩), .int .u64 150] 137) = X
  have el := asElemV ⟨c, 0, none⟩ ⟨t, 0, none⟩ (w.alloc X) (by rw [World.cell?_alloc_lt _ _ ⟨c, 0, none⟩ hcl]; exact hc)
  generalize hY : (Obj.cells #[.int .i64 n, .iface 199 (.pointer (some e))] 99) = Y
  have hb2 : ((w.alloc X).alloc Y).heap[w.heap.size + 1]? = some (.cells #[.int .i64 n, .iface 199 (.pointer (some e))] 99) := by
    have := heap_alloc_new (w.alloc X) Y
    rw [World.size_alloc] at this
    rw [this, hY]
  have ht2 : ((w.alloc X).alloc Y).heap[t]? = some (.cells #[y0, y1] 99) := by
    rw [heap_alloc_old (w.alloc X) Y (by rw [World.size_alloc]; omega), heap_alloc_old w X htl]; exact ht
  have st := asSet t (w.heap.size + 1) n e y0 y1 _ hb2 ht2
  have ⟨s1, s2⟩ := set_two t (.int .i64 n) (.iface 199 (.pointer (some e))) y0 y1 _ ht2
  have B2 : Below t w ((w.alloc X).alloc Y) := ((Below.refl t w).alloc (by omega) X).alloc (by rw [World.size_alloc]; omega) Y
  have B3 := Lib.hid (B2.trans s2)
  have S1 := Lib.hid s1
  generalize (((w.alloc X).alloc Y).setCell ⟨t, 0, none⟩ (.int .i64 n)).setCell ⟨t, 1, none⟩ (.iface 199 (.pointer (some e))) = W3 at *
  subst hX
  subst hY
  clear s1 s2 B2 ht2 hb2 ht hc
  go_enter Tryd.func105, Tryd.ntmps105
  go_wp2
  refine wp_loop_rounds 1 ?_
  rw [rounds_succ]
  go_wp2
  go_ret
  exact ⟨rfl, S1.out, B3.out⟩

end Go.Proofs.YtdckjhobikfggaaDoor

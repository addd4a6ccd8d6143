/- errors.As and faultOffset: contracts. The library's own variable errorType reads as its text lays it. -/
import Derived.Test.YtdckjhobikfggaaDoorErrAsB
namespace Go.Proofs.YtdckjhobikfggaaDoor
open Go.RowKit Go.Extern.Stop Go.Stop Go.Extern

/-- errors.errorType, as the library lays it. -/
def ErrType (w : World) : Prop := w.cell? ⟨3, 0, none⟩ = some (.iface 168 (.agg #[.pointer (some ⟨6, 69, none⟩)]))
theorem ErrType.keep {w w' : World} (h : ErrType w) (hb : Below w.heap.size w w') : ErrType w' := by
  unfold ErrType at *
  rw [hb.cell (World.block_lt_of_cell? w _ h)]; exact h

set_option maxHeartbeats 2000000 in
set_option maxRecDepth 100000 in
theorem as_hit (n : Int) (e : Addr) (t : Nat) (y0 y1 : Value) (w : World) (hg : ErrType w) (ht : w.heap[t]? = some (.cells #[y0, y1] 99)) :
    Calls Tryd.prog 77 #[.iface 99 (.agg #[.int .i64 n, .iface 199 (.pointer (some e))]), .iface 101 (.pointer (some ⟨t, 0, none⟩))] w
      fun ev w' => ev = .returned (.bool true) ∧ w'.heap[t]? = some (.cells #[.int .i64 n, .iface 199 (.pointer (some e))] 99) ∧ Below t w w' := by
  have htl : t < w.heap.size := (Array.getElem?_eq_some_iff.1 ht).1
  have hgl := World.block_lt_of_cell? w _ hg
  have vT := asValueOfT
  have tY := asType
  have mK := asMethodKind
  have kP := asKindP
  have kS := asKindS
  have mE := asMethodElem
  have mI := asMethodImplements
  have eL := asElem
  have iM := asImplements
  generalize hX : (Obj.cells #[.pointer (some ⟨t, 0, none⟩)] 101) = X
  generalize hY : (Obj.cells #[.pointer (some ⟨6, 101, none⟩), .pointer (some ⟨w.heap.size, 0, none⟩), .int .u64 150] 137) = Y
  have hc : ((w.alloc X).alloc Y).cell? ⟨w.heap.size, 0, none⟩ = some (.pointer (some ⟨t, 0, none⟩)) := by
    rw [World.cell?_alloc_lt _ _ ⟨w.heap.size, 0, none⟩ (by rw [World.size_alloc]; exact Nat.lt_succ_self _), ← hX]
    rw [World.cell?_alloc_mark]; rfl
  have n8 := asIsNil ⟨w.heap.size, 0, none⟩ ⟨t, 0, none⟩ ((w.alloc X).alloc Y) hc
  have hg2 : ((w.alloc X).alloc Y).cell? ⟨3, 0, none⟩ = some (.iface 168 (.agg #[.pointer (some ⟨6, 69, none⟩)])) := by
    rw [World.cell?_alloc_lt _ _ ⟨3, 0, none⟩ (by rw [World.size_alloc]; exact Nat.lt_succ_of_lt hgl), World.cell?_alloc_lt _ _ ⟨3, 0, none⟩ hgl]; exact hg
  have ht2 : ((w.alloc X).alloc Y).heap[t]? = some (.cells #[y0, y1] 99) := by
    rw [heap_alloc_old (w.alloc X) Y (by rw [World.size_alloc]; omega), heap_alloc_old w X htl]; exact ht
  have B2 : Below t w ((w.alloc X).alloc Y) := ((Below.refl t w).alloc (by omega) X).alloc (by rw [World.size_alloc]; omega) Y
  have HA := Lib.hid (asl_hit n e t w.heap.size y0 y1 _ hc ht2)
  have HB := Lib.hid B2
  subst hX
  subst hY
  clear ht2 hc B2 ht hg
  go_enter Tryd.func77, Tryd.ntmps77
  go_wp2_with fail
  refine HA.out.mono ?_
  rintro ev w' ⟨rfl, h1, h2⟩
  have h3 := Lib.hid (HB.out.trans h2)
  have h4 := Lib.hid h1
  clear h1 h2 n8 hg2
  go_wp2
  go_ret
  exact ⟨rfl, h4.out, h3.out⟩

set_option maxRecDepth 100000 in
theorem impl_faultOffset (n : Int) (e : Addr) (w : World) (hg : ErrType w) : Calls Tryd.prog 43 #[faultV n e] w fun ev w' => ev = .returned (.int .i64 n) ∧ Below w.heap.size w w' := by
  have ht := heap_alloc_new w (.cells #[.int .i64 0, .nilIface] 99)
  have HA := Lib.hid (as_hit n e w.heap.size _ _ _ (hg.keep ((Below.refl _ _).alloc (Nat.le_refl _) _)) ht)
  unfold faultV
  clear ht hg
  go_enter Tryd.func43, Tryd.ntmps43
  go_wp2_with fail
  refine HA.out.mono ?_
  rintro ev w' ⟨rfl, h1, h2⟩
  have hc : w'.cell? ⟨w.heap.size, 0, none⟩ = some (.int .i64 n) := by rw [cell_of_row w' _ 0 _ _ _ h1]; rfl
  have h3 : Hid (Below w.heap.size w w') := Lib.hid (((Below.refl _ _).alloc (Nat.le_refl _) _).trans h2)
  clear h1 h2
  go_wp2
  go_ret
  exact ⟨rfl, h3.out⟩

end Go.Proofs.YtdckjhobikfggaaDoor

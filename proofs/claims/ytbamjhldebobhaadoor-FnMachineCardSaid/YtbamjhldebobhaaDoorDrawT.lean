/- A state and a text drawn from a code. -/
import Derived.Test.YtbamjhldebobhaaDoorDrawP
import Derived.Test.YtbamjhldebobhaaDoorDrawG
namespace Go.Proofs.YtbamjhldebobhaaDoor
open Go.RowKit

/-- A drawn state: whatever the code, a valid one. -/
def StDrawn (w : World) (e : Ending) (w' : World) : Prop := (∃ x : St, e = .returned (stV x) ∧ stOKB x = true) ∧ Below w.heap.size w w'
theorem only_new {w w1 w2 : World} (h1 : Below w.heap.size w w1) (h2 : Only w.heap.size w1 w2) : Below w.heap.size w w2 := h1.trans h2.1
set_option maxHeartbeats 1000000 in
set_option maxRecDepth 100000 in
theorem spec_RawDrawn (v : Value) (zs : List Int) (w : World) (h : Ints .u8 w v zs) (hz : ∀ z ∈ zs, 0 ≤ z ∧ z ≤ 255) (hl : zs.length ≤ 1048600) :
    Calls Tryd.prog 5 #[v] w fun e w' => (∃ t : ByteArray, e = .returned (.string t) ∧ t.size ≤ 200) ∧ Below w.heap.size w w' := by
  have HI := Lib.hid h
  obtain ⟨a, c, rfl⟩ := h.form
  clear h
  go_enter Tryd.func5, Tryd.ntmps5
  go_wp2_with fail
  refine (spec_l00Source _ zs w HI.out hz hl).mono ?_
  rintro e w1 ⟨rfl, s1, b1⟩
  go_wp2_with fail
  refine (src_raw w.heap.size zs 0 w1 s1 (by omega)).mono ?_
  rintro e w2 ⟨⟨t, rfl, ht⟩, s2, o2⟩
  have B2 := only_new b1 o2
  clear s2 o2
  go_wp2
  go_ret
  exact ⟨⟨t, rfl, ht⟩, B2⟩

set_option maxHeartbeats 1000000 in
set_option maxRecDepth 100000 in
theorem spec_StateDrawn (v : Value) (zs : List Int) (w : World) (h : Ints .u8 w v zs) (hz : ∀ z ∈ zs, 0 ≤ z ∧ z ≤ 255) (hl : zs.length ≤ 1048600) :
    Calls Tryd.prog 4 #[v] w (StDrawn w) := by
  have HI := Lib.hid h
  have hR0 := Lib.hid (stSlot0 w)
  have b0 := Lib.hid (below_one w (.cells #[.int .i64 0, .int .i64 0, .int .i64 0, .int .i64 0, .int .i64 0, .int .i64 0, .int .i64 0] 24))
  have HI0 := Lib.hid (h.keep b0.out)
  have hsz : (w.alloc (.cells #[.int .i64 0, .int .i64 0, .int .i64 0, .int .i64 0, .int .i64 0, .int .i64 0, .int .i64 0] 24)).heap.size = w.heap.size + 1 := by simp
  obtain ⟨a, c, rfl⟩ := h.form
  have HSZ := Lib.hid hsz
  clear h hsz
  go_enter Tryd.func4, Tryd.ntmps4
  go_wp2_with fail
  refine (spec_l00Source _ zs _ HI0.out hz hl).mono ?_
  generalize w.alloc (.cells #[.int .i64 0, .int .i64 0, .int .i64 0, .int .i64 0, .int .i64 0, .int .i64 0, .int .i64 0] 24) = W0 at *
  rintro e w1 ⟨rfl, s1, b1⟩
  go_wp2_with fail
  refine (src_state W0.heap.size zs 0 w1 s1 (by omega)).mono ?_
  rintro e w2 ⟨⟨x, rfl, hx⟩, s2, o2⟩
  have hsz := HSZ.out
  have B1 := b0.out.trans (b1.mono b0.out.size)
  have B2 := Lib.hid (B1.trans (o2.1.mono (by omega)))
  have R2 := Lib.hid ((hR0.out.keep b1).only' o2 (by omega))
  have HX := Lib.hid hx
  clear s2 o2 b1 B1 hx s1
  have ⟨r0, r1, r2, r3, r4, r5, r6⟩ := R2.out.cells
  have ⟨z0, z1, z2, z3, z4, z5, z6⟩ := R2.out.thaw
  simp only [zeroSt] at r0 r1 r2 r3 r4 r5 r6
  have hl2 : w.heap.size < w2.heap.size := R2.out.lt
  unfold stV
  go_wp2
  exact bodyPost_ret (results_cell_row rfl _ _ w.heap.size _ _ _ _ rfl (R2.out.put x) Tryd.underlying24 rfl (by kernel_rfl)) rfl ⟨⟨x, rfl, HX.out⟩, below_putSt B2.out (Nat.le_refl _) x⟩

end Go.Proofs.YtbamjhldebobhaaDoor

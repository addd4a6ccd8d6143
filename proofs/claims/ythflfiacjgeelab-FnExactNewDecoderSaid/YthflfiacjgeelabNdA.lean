/- NewDecoder: the specification's and the program's. -/
import Derived.Test.YthflfiacjgeelabPcA0
namespace Go.Proofs.Ythflfiacjgeelab
open Go.RowKit

theorem de_ret2 {P : Program} {fn : Func} {p u : Tmp} {a : Act} {w1 : World} {g : Nat} {ty : TypeId} {d : TypeDesc} {y : De} {c : Int} {Q : Ending → World → Prop} (h : fn.results = #[.cell p ty, .tmp u])
    (hp : a.tmps.getD p undef = .pointer (some ⟨g, 0, none⟩)) (hc : a.tmps.getD u undef = .int .i64 c) (hg : DeAt w1 g y)
    (hu : P.underlying ty = some d) (hd : (match d with | .struct _ | .array _ _ => true | _ => false) = true) (hi : (P.info? ty).map (·.size) = some 13) (hdef : a.defers = []) (hQ : Q (.returned (.tuple #[deV y, .int .i64 c])) w1) :
    bodyPost P fn Q .ret a w1 :=
  bodyPost_ret (results_row_tmp' h _ _ g _ _ _ _ hp hg hu hd hi) hdef (by rw [hc]; exact hQ)
theorem de_ret {P : Program} {fn : Func} {p : Tmp} {a : Act} {w w1 : World} {g : Nat} {ty : TypeId} {d : TypeDesc} {y : De} (h : fn.results = #[.cell p ty])
    (hp : a.tmps.getD p undef = .pointer (some ⟨g, 0, none⟩)) (hg : DeAt w1 g y)
    (hu : P.underlying ty = some d) (hd : (match d with | .struct _ | .array _ _ => true | _ => false) = true) (hi : (P.info? ty).map (·.size) = some 13) (hdef : a.defers = []) (hb : Below w.heap.size w w1) :
    bodyPost P fn (DeDone y w) .ret a w1 :=
  bodyPost_ret (results_cell_row h _ _ g _ _ _ _ hp hg hu hd hi) hdef ⟨rfl, hb⟩
def NdDone (n : Int) (w : World) (e : Ending) (w' : World) : Prop := e = .returned (.tuple #[deV (newP n), .int .i64 (newC n)]) ∧ Below w.heap.size w w'

set_option maxHeartbeats 1000000 in
set_option maxRecDepth 100000 in
theorem spec_l08New (n : Int) (w : World) : Calls Try.prog 8 #[.int .i64 n] w (DeDone ⟨n, 0, 0, startP n, ⟨#[]⟩, false, false⟩ w) := by
  have R0 := Lib.hid (deSlot0 w)
  have B0 := Lib.hid (below_one w (.cells #[.int .i64 0, .int .i64 0, .int .i64 0, .int .i64 0, .int .i64 0, .int .i64 0, .int .i64 0, .int .i64 0, .int .i64 0, .int .i64 0, .string ⟨#[]⟩, .bool false, .bool false] 25))
  have HS := Lib.hid (fun w => spec_l05Start n w)
  unfold StDone stV at HS
  generalize startP n = y at *
  go_enter Try.func8, Try.ntmps8
  go_wp2_with fail
  refine (HS.out _).mono ?_
  generalize w.alloc (.cells #[.int .i64 0, .int .i64 0, .int .i64 0, .int .i64 0, .int .i64 0, .int .i64 0, .int .i64 0, .int .i64 0, .int .i64 0, .int .i64 0, .string ⟨#[]⟩, .bool false, .bool false] 25) = W0 at *
  rintro e w1 ⟨rfl, b1⟩
  have R1 := Lib.hid (R0.out.keep b1)
  have B1 := Lib.hid (B0.out.trans (b1.mono B0.out.size))
  have hl1 : w.heap.size < w1.heap.size := R1.out.lt
  clear b1 R0
  have ⟨r0, r1, r2, r3, r4, r5, r6, r7, r8, r9, r10, r11, r12⟩ := R1.out.cells
  have ⟨z0, z1, z2, z3, z4, z5, z6, z7, z8, z9, z10, z11, z12⟩ := R1.out.thaw
  simp only [zeroDe, zeroSt] at r0 r1 r2 r3 r4 r5 r6 r7 r8 r9 r10 r11 r12
  go_wp2
  exact de_ret (y := ⟨n, 0, 0, y, ⟨#[]⟩, false, false⟩) rfl rfl (R1.out.put ⟨n, 0, 0, y, ⟨#[]⟩, false, false⟩) Try.underlying25 rfl (by kernel_rfl) rfl (below_putDe B1.out (Nat.le_refl _) ⟨n, 0, 0, y, ⟨#[]⟩, false, false⟩)

set_option maxHeartbeats 1000000 in
set_option maxRecDepth 100000 in
theorem spec_NewDecoder (n : Int) (w : World) : Calls Try.prog 4 #[.int .i64 n] w (NdDone n w) := by
  have R0 := Lib.hid (deSlot0 w)
  have B0 := Lib.hid (below_one w (.cells #[.int .i64 0, .int .i64 0, .int .i64 0, .int .i64 0, .int .i64 0, .int .i64 0, .int .i64 0, .int .i64 0, .int .i64 0, .int .i64 0, .string ⟨#[]⟩, .bool false, .bool false] 25))
  have HN := Lib.hid (fun w => spec_l05No n w)
  have HS := Lib.hid (fun w => spec_l08New n w)
  unfold DeDone deV at HS
  dsimp only at HS
  cases hn : proB n
  · have HX : Hid (newP n = zeroDe) := Lib.hid (by simp [newP, hn])
    have HC : Hid (newC n = 5) := Lib.hid (by simp [newC, hn])
    rw [hn] at HN
    clear hn HS
    go_enter Try.func4, Try.ntmps4
    go_wp2_with fail
    refine (HN.out _).mono ?_
    rintro e w1 ⟨rfl, rfl⟩
    go_wp2
    exact de_ret2 (y := zeroDe) rfl rfl rfl R0.out Try.underlying25 rfl (by kernel_rfl) rfl ⟨by rw [HC.out, HX.out], B0.out⟩
  · have HX : Hid (newP n = ⟨n, 0, 0, startP n, ⟨#[]⟩, false, false⟩) := Lib.hid (by simp [newP, hn]; rfl)
    have HC : Hid (newC n = 0) := Lib.hid (by simp [newC, hn])
    rw [hn] at HN
    clear hn
    generalize startP n = y at *
    go_enter Try.func4, Try.ntmps4
    go_wp2_with fail
    refine (HN.out _).mono ?_
    rintro e w1 ⟨rfl, rfl⟩
    go_wp2_with fail
    refine (HS.out _).mono ?_
    generalize w.alloc (.cells #[.int .i64 0, .int .i64 0, .int .i64 0, .int .i64 0, .int .i64 0, .int .i64 0, .int .i64 0, .int .i64 0, .int .i64 0, .int .i64 0, .string ⟨#[]⟩, .bool false, .bool false] 25) = W0 at *
    rintro e w1 ⟨rfl, b1⟩
    have R1 := Lib.hid (R0.out.keep b1)
    have B1 := Lib.hid (B0.out.trans (b1.mono B0.out.size))
    have hl1 : w.heap.size < w1.heap.size := R1.out.lt
    clear b1 R0
    have ⟨r0, r1, r2, r3, r4, r5, r6, r7, r8, r9, r10, r11, r12⟩ := R1.out.cells
    have ⟨z0, z1, z2, z3, z4, z5, z6, z7, z8, z9, z10, z11, z12⟩ := R1.out.thaw
    simp only [zeroDe, zeroSt] at r0 r1 r2 r3 r4 r5 r6 r7 r8 r9 r10 r11 r12
    go_wp2
    exact de_ret2 (y := ⟨n, 0, 0, y, ⟨#[]⟩, false, false⟩) rfl rfl rfl (R1.out.put ⟨n, 0, 0, y, ⟨#[]⟩, false, false⟩) Try.underlying25 rfl (by kernel_rfl) rfl ⟨by rw [HC.out, HX.out], below_putDe B1.out (Nat.le_refl _) ⟨n, 0, 0, y, ⟨#[]⟩, false, false⟩⟩

set_option maxHeartbeats 1000000 in
set_option maxRecDepth 100000 in
theorem impl_NewDecoder (n : Int) (w : World) : Calls Try.prog 5 #[.int .i64 n] w (NdDone n w) := by
  have R0 := Lib.hid (deSlot0 w)
  have B0 := Lib.hid (below_one w (.cells #[.int .i64 0, .int .i64 0, .int .i64 0, .int .i64 0, .int .i64 0, .int .i64 0, .int .i64 0, .int .i64 0, .int .i64 0, .int .i64 0, .string ⟨#[]⟩, .bool false, .bool false] 25))
  have HN := Lib.hid (fun w => impl_isProfile n w)
  have HS := Lib.hid (fun w => impl_startOf n w)
  unfold StDone stV at HS
  cases hn : proB n
  · have HX : Hid (newP n = zeroDe) := Lib.hid (by simp [newP, hn])
    have HC : Hid (newC n = 5) := Lib.hid (by simp [newC, hn])
    rw [hn] at HN
    clear hn HS
    go_enter Try.func5, Try.ntmps5
    go_wp2_with fail
    refine (HN.out _).mono ?_
    rintro e w1 ⟨rfl, rfl⟩
    go_wp2
    exact de_ret2 (y := zeroDe) rfl rfl rfl R0.out Try.underlying25 rfl (by kernel_rfl) rfl ⟨by rw [HC.out, HX.out], B0.out⟩
  · have HX : Hid (newP n = ⟨n, 0, 0, startP n, ⟨#[]⟩, false, false⟩) := Lib.hid (by simp [newP, hn]; rfl)
    have HC : Hid (newC n = 0) := Lib.hid (by simp [newC, hn])
    rw [hn] at HN
    clear hn
    generalize startP n = y at *
    go_enter Try.func5, Try.ntmps5
    go_wp2_with fail
    refine (HN.out _).mono ?_
    rintro e w1 ⟨rfl, rfl⟩
    go_wp2_with fail
    refine (HS.out _).mono ?_
    generalize w.alloc (.cells #[.int .i64 0, .int .i64 0, .int .i64 0, .int .i64 0, .int .i64 0, .int .i64 0, .int .i64 0, .int .i64 0, .int .i64 0, .int .i64 0, .string ⟨#[]⟩, .bool false, .bool false] 25) = W0 at *
    rintro e w1 ⟨rfl, b1⟩
    have R1 := Lib.hid (R0.out.keep b1)
    have B1 := Lib.hid (B0.out.trans (b1.mono B0.out.size))
    have hl1 : w.heap.size < w1.heap.size := R1.out.lt
    clear b1 R0
    have ⟨r0, r1, r2, r3, r4, r5, r6, r7, r8, r9, r10, r11, r12⟩ := R1.out.cells
    have ⟨z0, z1, z2, z3, z4, z5, z6, z7, z8, z9, z10, z11, z12⟩ := R1.out.thaw
    simp only [zeroDe, zeroSt] at r0 r1 r2 r3 r4 r5 r6 r7 r8 r9 r10 r11 r12
    go_wp2
    exact de_ret2 (y := ⟨n, 0, 0, y, ⟨#[]⟩, false, false⟩) rfl rfl rfl (R1.out.put ⟨n, 0, 0, y, ⟨#[]⟩, false, false⟩) Try.underlying25 rfl (by kernel_rfl) rfl ⟨by rw [HC.out, HX.out], below_putDe B1.out (Nat.le_refl _) ⟨n, 0, 0, y, ⟨#[]⟩, false, false⟩⟩

end Go.Proofs.Ythflfiacjgeelab

/- The walk of 'FnExactSetOf': the law returns true at every argument, where the package's table reads as its text lays it. -/
import Derived.Test.YtlakpddabkmpoaaDoorSetsO
import Derived.Test.YtlakpddabkmpoaaDoorSetsLaid
import Derived.Test.YtlakpddabkmpoaaDoorSetVar
namespace Go.Proofs.YtlakpddabkmpoaaDoor.fnExactSetOf
open Go.RowKit

def nmF (n : Int) : ByteArray := if setB n = true then setName n else ⟨#[]⟩
def kdF (n : Int) : Int := if setB n = true then setKind n else 0
def fnF (n : Int) : Int := if setB n = true then setFinal n else 0
def spF (n : Int) : List Sp := if setB n = true then setSpans n else []
def cdF (n : Int) : Int := if setB n = true then 0 else 5

theorem specSet (n : Int) (w : World) : Calls Tryd.prog 15 #[.int .i64 n] w fun e w' => ∃ u, e = .returned (.tuple #[setVal (nmF n) (kdF n) (fnF n) u, .int .i64 (cdF n)]) ∧ SpAt w' u (spF n) ∧ Below w.heap.size w w' := by
  refine (spec_SetOf n w).mono ?_
  rintro e w' ⟨⟨hn, rfl⟩ | ⟨hn, g, rfl, hg, hblk⟩, b⟩
  · refine ⟨.slice none 0 0, ?_, .inl ⟨by simp [spF, hn], none, 0, rfl⟩, b⟩
    simp [nmF, kdF, fnF, cdF, hn, setVal, zeroSet]
  · refine ⟨.slice (some ⟨g, 0, none⟩) (setSpans n).length (setSpans n).length, ?_, .inr ⟨g, 0, (setSpans n).length, by simp [spF, hn], fun i hi => ?_⟩, b⟩
    · simp [nmF, kdF, fnF, cdF, hn, setVal, setV]
    · have e : spF n = setSpans n := by simp [spF, hn]
      simp only [e] at hi ⊢
      simpa using SetDone.cells hblk i hi
theorem implSet (n : Int) (w : World) (ht : TabSets w) : Calls Tryd.prog 14 #[.int .i64 n] w fun e w' => ∃ v, e = .returned (.tuple #[setVal (nmF n) (kdF n) (fnF n) v, .int .i64 (cdF n)]) ∧ OwnC w' w.heap.size v (spF n).length (spZ (spF n)) ∧ Below w.heap.size w w' := by
  refine (impl_SetOf n w ht).mono ?_
  rintro e w' ⟨⟨hn, rfl⟩ | ⟨hn, v, rfl, ho⟩, b⟩
  · refine ⟨.slice none 0 0, ?_, ?_, b⟩
    · simp [nmF, kdF, fnF, cdF, hn, setVal, zeroSet]
    · have e : spF n = [] := by simp [spF, hn]
      rw [e]
      exact World.ownsRow_nil _ _ _ _
  · refine ⟨v, ?_, ?_, b⟩
    · simp [nmF, kdF, fnF, cdF, hn]
    · have e : spF n = setSpans n := by simp [spF, hn]
      rw [e]
      exact ho
theorem spF_few (n : Int) : (spF n).length ≤ 4 := by
  unfold spF
  split
  · exact (set_few n).2
  · simp

set_option maxHeartbeats 2000000 in
theorem walk (a : Int) (w : World) (_h0 : (Lit.int .i64 a).wf = true) (ht : TabSets w) : Calls Tryd.prog 4 #[.int .i64 a] w fun e w' => e = .returned (.bool true) ∧ Below w.heap.size w w' := by
  have HT := Lib.hid ht
  clear ht
  have hl := spF_few a
  have HI := Lib.hid (implSet a)
  have HS := Lib.hid (specSet a)
  generalize nmF a = nm at *
  generalize kdF a = kd at *
  generalize fnF a = fn at *
  generalize spF a = sp at *
  generalize cdF a = cd at *
  have hl2 : sp.length ≤ 1048576 := by omega
  go_enter Tryd.func4, Tryd.ntmps4
  go_wp2_with fail
  refine (HS.out _).mono ?_
  rintro e w1 ⟨u1, rfl, s1, b1⟩
  obtain ⟨ua, uc, rfl⟩ := s1.form
  unfold setVal
  have V1 := VarIs.new w1 nm kd fn (.slice ua sp.length uc)
  have B1 : Below w.heap.size w (w1.alloc (.cells #[.string nm, .int .i64 kd, .int .i64 fn, .slice ua sp.length uc] 26)) := b1.alloc b1.size _
  have S1 := s1.keep ((Below.refl _ _).alloc (Nat.le_refl _) (.cells #[.string nm, .int .i64 kd, .int .i64 fn, .slice ua sp.length uc] 26))
  have hp0 : (w1.alloc (.cells #[.string nm, .int .i64 kd, .int .i64 fn, .slice ua sp.length uc] 26)).heap.size = w1.heap.size + 1 := by simp
  clear s1
  go_wp2_with fail
  refine (HI.out _ (HT.out.keep B1)).mono ?_
  generalize w1.alloc (.cells #[.string nm, .int .i64 kd, .int .i64 fn, .slice ua sp.length uc] 26) = W1 at *
  rintro e w2 ⟨v2, rfl, o2, b2⟩
  obtain ⟨va, vc, rfl, _⟩ := o2.shape
  unfold setVal
  have HV1 := Lib.hid V1
  have HS1 := Lib.hid S1
  have hW12 := b2.size
  have V2 := VarIs.new w2 nm kd fn (.slice va sp.length vc)
  have x1 := (Below.refl w2.heap.size w2).alloc (Nat.le_refl _) (.cells #[.string nm, .int .i64 kd, .int .i64 fn, .slice va sp.length vc] 26)
  have hp1 : (w2.alloc (.cells #[.string nm, .int .i64 kd, .int .i64 fn, .slice va sp.length vc] 26)).heap.size = w2.heap.size + 1 := by simp
  have C2 : Below W1.heap.size W1 (w2.alloc (.cells #[.string nm, .int .i64 kd, .int .i64 fn, .slice va sp.length vc] 26)) := b2.trans (x1.mono b2.size)
  have O2 := o2.all x1
  have L2 := Lib.hid (fun g hg => (World.ownsRow.lt o2 g hg).2)
  clear V1 S1 o2 x1 b2
  obtain ⟨c0, c1, c2, c3⟩ := (HV1.out.keep C2).cells
  obtain ⟨d0, d1, d2, d3⟩ := V2.cells
  go_wp2_with fail
  generalize w2.alloc (.cells #[.string nm, .int .i64 kd, .int .i64 fn, .slice va sp.length vc] 26) = W2 at *
  refine (laws_eqSet_true nm kd fn (.slice va sp.length vc) (.slice ua sp.length uc) sp W2 O2.spAt (HS1.out.keep C2) hl2).mono ?_
  rintro e w3 ⟨rfl, b3⟩
  have V2d := V2.keep b3
  have O3 := O2.all b3
  have C3 : Below W1.heap.size W1 w3 := C2.trans (b3.mono C2.size)
  clear V2 O2 c0 c1 c2 c3 d0 d1 d2 d3 hp1 b3 C2
  obtain ⟨d0, d1, d2, d3⟩ := V2d.cells
  go_wp2_with fail
  refine (laws_markSet nm kd fn (.slice va sp.length vc) sp.length _ 1 W1.heap.size w3 O3 C3.size hl2 (by omega) (by omega)).mono ?_
  rintro e w4 ⟨rfl, o4, b4, g4⟩
  have V2e := V2d.grown g4 (fun h => by have := L2.out _ h.symm; omega)
  have C4 : Below W1.heap.size W1 w4 := C3.trans b4
  clear V2d O3 d0 d1 d2 d3 b4 g4 C3
  obtain ⟨d0, d1, d2, d3⟩ := V2e.cells
  go_wp2_with fail
  refine (laws_heldSet nm kd fn (.slice va sp.length vc) sp.length 1 W1.heap.size w4 o4 hl2 (by omega) (by omega)).mono ?_
  rintro e w5 ⟨rfl, b5⟩
  have V2f := V2e.keep b5
  have O5 := o4.all b5
  have C5 : Below W1.heap.size W1 w5 := C4.trans (b5.mono C4.size)
  clear V2e o4 d0 d1 d2 d3 b5 C4
  go_wp2_with fail
  refine (HI.out _ (HT.out.keep (B1.trans (C5.mono B1.size)))).mono ?_
  rintro e w6 ⟨v6, rfl, o6, b6⟩
  obtain ⟨xa, xc, rfl, _⟩ := o6.shape
  unfold setVal
  have V2g := V2f.keep b6
  have O6 := O5.all b6
  have C6 : Below W1.heap.size W1 w6 := C5.trans (b6.mono C5.size)
  have V6 := VarIs.new w6 nm kd fn (.slice xa sp.length xc)
  have x6 := (Below.refl w6.heap.size w6).alloc (Nat.le_refl _) (.cells #[.string nm, .int .i64 kd, .int .i64 fn, .slice xa sp.length xc] 26)
  have C6b : Below W1.heap.size W1 (w6.alloc (.cells #[.string nm, .int .i64 kd, .int .i64 fn, .slice xa sp.length xc] 26)) := C6.trans (x6.mono C6.size)
  have V2h := V2g.keep x6
  have O7 := O6.all x6
  have o6b := o6.all x6
  clear V2f V2g O5 O6 C6 x6 b6 o6 C5
  obtain ⟨c0, c1, c2, c3⟩ := (HV1.out.keep C6b).cells
  obtain ⟨d0, d1, d2, d3⟩ := V6.cells
  go_wp2_with fail
  generalize w6.alloc (.cells #[.string nm, .int .i64 kd, .int .i64 fn, .slice xa sp.length xc] 26) = W6 at *
  refine (laws_eqSet_true nm kd fn (.slice xa sp.length xc) (.slice ua sp.length uc) sp W6 o6b.spAt (HS1.out.keep C6b) hl2).mono ?_
  rintro e w7 ⟨rfl, b7⟩
  have V2i := V2h.keep b7
  have O8 := O7.all b7
  have C7 : Below W1.heap.size W1 w7 := C6b.trans (b7.mono C6b.size)
  clear V2h O7 V6 o6b C6b b7 c0 c1 c2 c3 d0 d1 d2 d3
  obtain ⟨d0, d1, d2, d3⟩ := V2i.cells
  go_wp2_with fail
  refine (laws_heldSet nm kd fn (.slice va sp.length vc) sp.length 1 W1.heap.size w7 O8 hl2 (by omega) (by omega)).mono ?_
  rintro e w8 ⟨rfl, b8⟩
  have B8 : Below w.heap.size w w8 := B1.trans ((C7.trans (b8.mono C7.size)).mono B1.size)
  clear V2i O8 d0 d1 d2 d3 b8 C7
  go_wp2
  go_ret
  exact ⟨rfl, B8⟩

theorem table {W : World} (h : laidMetH Tryd.prog Rows.fnExactSetOfRow.laid W) : TabSets W := sets_of_laid h
theorem readable : ∀ n ∈ Rows.fnExactSetOfSpec.vars, ∀ g t, Tryd.prog.globalNamed n = some g → (Tryd.prog.globals[g]?).map (·.type) = some t → Tryd.prog.readableRec t = true ∧ t < Tryd.prog.types.size := sets_readable

end Go.Proofs.YtlakpddabkmpoaaDoor.fnExactSetOf

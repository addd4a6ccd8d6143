/- A struct whose fields are all ints, by value: opened and shut. No condition. -/
import Derived.Test.YtbamjhldebobhaaGreatDoorRows
import Derived.ProofKit
import Derived.OpenShut
import Derived.ShutString
import Derived.ChangeOld
import Derived.WideShapes
namespace Go.Proofs.YtbamjhldebobhaaGreatDoor
open Go.ChangeShapes Go.WideShapes Go.ChangeAt Go.RowKit

def isI64 (P : Program) (t : TypeId) : Bool := match P.underlying t with | some (.int .i64) => true | _ => false
theorem isI64_of {P : Program} {t : TypeId} (h : isI64 P t = true) : P.underlying t = some (.int .i64) := by
  unfold isI64 at h
  split at h
  · assumption
  · cases h
/-- The fields are ints, one a cell, in order. -/
def intFields (P : Program) (fs : Array Field) : Bool := (List.range fs.size).all fun i => match fs[i]? with | some f => isI64 P f.type && f.offset == i && P.cellsOf f.type == 1 | none => false
theorem intFields_at {P : Program} {fs : Array Field} (h : intFields P fs = true) (i : Nat) (hi : i < fs.size) : ∃ f, fs[i]? = some f ∧ P.underlying f.type = some (.int .i64) ∧ f.offset = i ∧ P.cellsOf f.type = 1 := by
  unfold intFields at h
  rw [List.all_eq_true] at h
  have h2 := h i (by simpa using hi)
  rw [Array.getElem?_eq_getElem hi] at h2 ⊢
  simp only [Bool.and_eq_true, beq_iff_eq] at h2
  exact ⟨_, rfl, isI64_of h2.1.1, h2.1.2, h2.2⟩

section
variable {H : Type} {enc : TypeId × Value → H} {P : Program} {w : World} {base : Nat} {spare : Nat → Bool} {held : Bool}

theorem open_intStruct {r : Reach} {b0 : Nat} {t : TypeId} {fs : Array Field} {v : Value} {d : DataW H} {p : List MemPlace} (hs : P.underlying t = some (.struct fs)) (hall : intFields P fs = true) (hC : P.cellsOf t = fs.size)
    (hv : Value.okWide P w r b0 t v) (h : DataW.Trod enc P w base spare held t v d p) :
    ∃ zs : List Int, zs.length = fs.size ∧ v = .agg (zs.map (Value.int .i64)).toArray ∧ d = .agg (zs.map fun z => .lit (.int .i64 z)) ∧ p = [] ∧ ∀ z ∈ zs, (Lit.int .i64 z).wf = true := by
  obtain ⟨cs, rfl, hsz⟩ := okWide_struct hs hv
  obtain ⟨fuel, hf⟩ := h
  obtain ⟨xs, n, _, hx, _, hlen, hel⟩ := DataW.trod_struct hs hf
  rw [hC] at hsz
  have key : ∀ i, i < fs.size → ∃ z, cs[i]? = some (.int .i64 z) ∧ xs[i]? = some (.lit (.int .i64 z), []) ∧ (Lit.int .i64 z).wf = true := by
    intro i hi
    obtain ⟨f, h1, h2, h3, h4⟩ := intFields_at hall i hi
    have h5 := hel i f h1
    rw [List.getElem?_eq_getElem (by omega)] at h5
    obtain ⟨z, e1, e2, e3⟩ := DataW.trod_int h2 h5
    rw [h3, h4] at e1
    refine ⟨z, ?_, ?_, e3⟩
    · have e4 := congrArg (fun l => l[0]?) e1
      simpa [Value.cells, List.getElem?_take, List.getElem?_drop] using e4
    · rw [List.getElem?_eq_getElem (by omega), e2]
  let zOf : Nat → Int := fun i => match cs[i]? with | some (.int _ z) => z | _ => 0
  have hz : ∀ i, i < fs.size → cs[i]? = some (.int .i64 (zOf i)) ∧ xs[i]? = some (.lit (.int .i64 (zOf i)), []) ∧ (Lit.int .i64 (zOf i)).wf = true := by
    intro i hi
    obtain ⟨z, e1, e2, e3⟩ := key i hi
    have : zOf i = z := by show (match cs[i]? with | some (.int _ z) => z | _ => 0) = z; rw [e1]
    rw [this]
    exact ⟨e1, e2, e3⟩
  refine ⟨(List.range fs.size).map zOf, by simp, ?_, ?_, ?_, ?_⟩
  · congr 1
    apply Array.ext_getElem?
    intro i
    by_cases hi : i < fs.size
    · rw [(hz i hi).1]; simp [hi]
    · rw [Array.getElem?_eq_none (by omega), Array.getElem?_eq_none (by simp; omega)]
  · have := congrArg Prod.fst hx
    simp only at this
    rw [this]
    congr 1
    apply List.ext_getElem?
    intro i
    by_cases hi : i < fs.size
    · rw [List.getElem?_map, (hz i hi).2.1]; simp [hi]
    · rw [List.getElem?_eq_none (by simp; omega), List.getElem?_eq_none (by simp; omega)]
  · have := congrArg Prod.snd hx
    simp only at this
    rw [this, List.flatMap_eq_nil_iff]
    intro y hy
    obtain ⟨i, hi, rfl⟩ := List.getElem_of_mem hy
    have e := (hz i (by omega)).2.1
    rw [List.getElem?_eq_getElem hi] at e
    rw [Option.some.inj e]
  · intro z hzm
    simp only [List.mem_map, List.mem_range] at hzm
    obtain ⟨i, hi, rfl⟩ := hzm
    exact (hz i hi).2.2

theorem shut_intStruct {t : TypeId} {fs : Array Field} (hs : P.underlying t = some (.struct fs)) (hall : intFields P fs = true) (hC : P.cellsOf t = fs.size) (zs : List Int) (hl : zs.length = fs.size) (hw : ∀ z ∈ zs, (Lit.int .i64 z).wf = true) :
    DataW.Trod enc P w base spare held t (.agg (zs.map (Value.int .i64)).toArray) (.agg (zs.map fun z => .lit (.int .i64 z))) [] := by
  have hm : fs.toList.mapM (fun f => DataW.trod enc P w base spare held 1 f.type (((zs.map (Value.int .i64)).drop f.offset).take (P.cellsOf f.type))) = some (zs.map fun z => ((.lit (.int .i64 z) : DataW H), ([] : List MemPlace))) := by
    have gen : ∀ (l : List Field) (k : Nat) (ys : List Int), l = fs.toList.drop k → ys = zs.drop k → l.mapM (fun f => DataW.trod enc P w base spare held 1 f.type (((zs.map (Value.int .i64)).drop f.offset).take (P.cellsOf f.type))) = some (ys.map fun z => ((.lit (.int .i64 z) : DataW H), ([] : List MemPlace))) := by
      intro l
      induction l with
      | nil =>
        intro k ys h1 h2
        have : fs.size ≤ k := by
          have := congrArg List.length h1
          simp at this
          omega
        have h3 : ys = [] := by rw [h2, List.drop_eq_nil_of_le (by omega)]
        rw [h3]
        rfl
      | cons f l ih =>
        intro k ys h1 h2
        have hk : k < fs.size := by
          have := congrArg List.length h1
          simp at this
          omega
        have hk2 : k < zs.length := by omega
        rw [List.drop_eq_getElem_cons (by simpa using hk)] at h1
        rw [List.drop_eq_getElem_cons hk2] at h2
        injection h1 with h4 h5
        obtain ⟨f', g1, g2, g3, g4⟩ := intFields_at hall k hk
        have hf : f = f' := by
          rw [Array.getElem?_eq_getElem hk] at g1
          rw [h4]
          exact Option.some.inj g1
        rw [← hf] at g2 g3 g4
        rw [List.mapM_cons, ih (k + 1) (zs.drop (k + 1)) h5 rfl, h2, g3, g4]
        have e : (((zs.map (Value.int .i64)).drop k).take 1) = [.int .i64 zs[k]] := by
          rw [List.drop_eq_getElem_cons (by simpa using hk2)]
          simp
        rw [e]
        have hw2 := hw zs[k] (List.getElem_mem hk2)
        simp [DataW.trod, g2, hw2]
        rw [← List.map_drop, ← List.map_drop, List.drop_eq_getElem_cons hk2]
        rfl
    exact gen fs.toList 0 zs rfl rfl
  have ts := trod_struct_mk (enc := enc) (w := w) (base := base) (spare := spare) (held := held) (n := 1) (cs := zs.map (Value.int .i64)) hs (by simp [hC, hl]) hm
  refine ⟨2, ?_⟩
  have hc : (Value.agg (zs.map (Value.int .i64)).toArray).cells.toList = zs.map (Value.int .i64) := by simp [Value.cells]
  rw [hc, ts]
  simp [Function.comp_def]
end

theorem list6 {zs : List Int} (h : zs.length = 6) : ∃ a b c d e f, zs = [a, b, c, d, e, f] := by
  match zs, h with
  | [a, b, c, d, e, f], _ => exact ⟨a, b, c, d, e, f, rfl⟩
theorem list7 {zs : List Int} (h : zs.length = 7) : ∃ a b c d e f g, zs = [a, b, c, d, e, f, g] := by
  match zs, h with
  | [a, b, c, d, e, f, g], _ => exact ⟨a, b, c, d, e, f, g, rfl⟩

end Go.Proofs.YtbamjhldebobhaaGreatDoor

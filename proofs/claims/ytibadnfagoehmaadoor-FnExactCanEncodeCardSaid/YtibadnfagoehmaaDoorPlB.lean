/- A region whose operations come up in any order, by an invariant on what has come up; the program's map of places, made by such a region. -/
import Derived.Test.YtibadnfagoehmaaDoorPlA
import Derived.Great.Frames
namespace Go.Proofs.YtibadnfagoehmaaDoor
open Go.RowKit Go.MapKept Go.ChangeMaps

/-- How many operations have not come up. -/
def unl (l : Array Bool) : Nat := (l.toList.filter (fun b => !b)).length
theorem unl_list_set : ∀ (l : List Bool) (i : Nat), l[i]? = some false → ((l.set i true).filter (fun b => !b)).length + 1 = (l.filter (fun b => !b)).length
  | [], i, h => by simp at h
  | b :: t, 0, h => by
    simp at h
    subst h
    simp
  | b :: t, i + 1, h => by
    have := unl_list_set t i (by simpa using h)
    cases b <;> simp <;> omega
theorem getD_true {l : Array Bool} {i : Nat} (h : l.getD i true = false) : l[i]? = some false := by
  rw [Array.getD_eq_getD_getElem?] at h
  cases hl : l[i]? with
  | none => rw [hl] at h; simp at h
  | some b => rw [hl] at h; simp at h; rw [h]
theorem unl_set {l : Array Bool} {i : Nat} (h : l.getD i true = false) : unl (l.setIfInBounds i true) + 1 = unl l := by
  have := unl_list_set l.toList i (by simpa using getD_true h)
  unfold unl
  rw [Array.toList_setIfInBounds]
  exact this
theorem unl_zero {l : Array Bool} (h : unl l = 0) (i : Nat) : l.getD i true = true := by
  cases hb : l.getD i true with
  | true => rfl
  | false => have := unl_set hb; omega

theorem wpAny_inv {P : Program} {ops : Array Oper} {Q : Exit → Act → World → Prop} (I : Array Bool → Act → World → Prop)
    (hstep : ∀ l a w, I l a w → ∀ i ∈ Region.ready .any ops l, wpOp P ops Q i (fun a' w' => I (l.setIfInBounds i true) a' w') a w)
    (hend : ∀ l a w, I l a w → Region.ready .any ops l = [] → Q .normal a w) : ∀ (fuel : Nat) (l : Array Bool) (a : Act) (w : World), unl l ≤ fuel → I l a w → wpAny P .any ops Q fuel l a w
  | 0, l, a, w, hf, hI => by
    have hr : Region.ready .any ops l = [] := by
      cases hr : Region.ready .any ops l with
      | nil => rfl
      | cons j t =>
        have hj : j ∈ Region.ready .any ops l := by rw [hr]; simp
        have h1 := (mem_ready.1 hj).1
        have h2 := unl_zero (by omega : unl l = 0) j
        rw [h1] at h2
        cases h2
    exact ⟨hr, hend l a w hI hr⟩
  | fuel + 1, l, a, w, hf, hI => by
    refine ⟨hend l a w hI, fun i hi => wpOp_mono (fun a' w' h => ?_) (hstep l a w hI i hi)⟩
    refine wpAny_inv I hstep hend fuel _ a' w' ?_ h
    have := unl_set (mem_ready.1 hi).1
    omega

/-- Every operation waits only for earlier ones. -/
def earlierB (ops : Array Oper) : Bool := (List.range ops.size).all fun i => match ops[i]? with | some o => o.after.all (fun e => decide (e.on < i)) | none => true
theorem all_listed {ops : Array Oper} {l : Array Bool} (hb : earlierB ops = true) (hs : l.size = ops.size) (hr : Region.ready .any ops l = []) : ∀ (n i : Nat), i < n → i < ops.size → l.getD i false = true
  | 0, i, h, _ => absurd h (Nat.not_lt_zero i)
  | n + 1, i, h, hi => by
    cases hl : l.getD i false with
    | true => rfl
    | false =>
      have h0 : l[i]? = some false := by
        rw [Array.getD_eq_getD_getElem?] at hl
        rw [Array.getElem?_eq_getElem (by omega : i < l.size)] at hl ⊢
        simpa using hl
      have h1 : l.getD i true = false := by rw [Array.getD_eq_getD_getElem?, h0]; rfl
      have hm : i ∈ Region.ready .any ops l := by
        refine mem_ready.2 ⟨h1, ops[i], Array.getElem?_eq_getElem hi, fun e he _ => ?_⟩
        have hall := List.all_eq_true.1 hb i (List.mem_range.2 hi)
        rw [Array.getElem?_eq_getElem hi] at hall
        have hlt := of_decide_eq_true (Array.all_eq_true_iff_forall_mem.1 hall e he)
        exact all_listed hb hs hr n e.on (by omega) (by omega)
      rw [hr] at hm
      cases hm

/-- The places, and the sets of each. -/
def plKeys : List (Int × Int) := [(1, 0), (2, 0), (2, 2), (3, 0), (3, 1), (4, 0), (4, 1), (4, 2), (5, 0), (5, 1)]
def plLists : List (List Int) := [[1, 2, 6], [1, 2, 6, 7, 8], [4, 5], [1], [7], [1], [7, 8], [3, 6], [1, 2, 6, 7, 8], [3, 4, 5, 6, 7, 8]]
def plKey (k : Nat) : Int × Int := plKeys.getD k (0, 0)
def plList (k : Nat) : List Int := plLists.getD k []
def plSl (b k : Nat) : Value := .slice (some ⟨b, 0, none⟩) (plList k).length (plList k).length
def plC (k : Nat) : Obj := .cells ((plList k).map (Value.int .i64)).toArray 3

/-- The map of places in block mb: the entry of place k is the row in block blk k; everything from block C on. -/
def PlMap (w : World) (C mb : Nat) (blk : Nat → Nat) (has : Nat → Bool) : Prop := C ≤ mb ∧ ∃ es, w.heap[mb]? = some (plO es) ∧ (∀ k, k < 10 → (has k = true → (∃ i, plIdx (plKey k).1 (plKey k).2 0 es = some (i, plSl (blk k) k))) ∧ (has k = false → plIdx (plKey k).1 (plKey k).2 0 es = none)) ∧
  ∀ p r, (∀ k, k < 10 → plKey k ≠ (p, r)) → plIdx p r 0 es = none

theorem plIdx_snoc (p r p' r' : Int) (v : Value) : ∀ (es : List ((Int × Int) × Value)) (i : Nat), plIdx p r i (es ++ [((p', r'), v)]) = match plIdx p r i es with | some q => some q | none => if ((p == p') && (r == r')) = true then some (i + es.length, v) else none
  | [], i => by simp [plIdx]
  | e :: t, i => by
    simp only [List.cons_append, plIdx]
    split
    · rfl
    · rw [plIdx_snoc p r p' r' v t (i + 1)]
      cases plIdx p r (i + 1) t with
      | some q => rfl
      | none => simp only [List.length_cons]; split <;> simp; omega

theorem plKey_inj : ∀ j, j < 10 → ∀ k, k < 10 → plKey j = plKey k → j = k := by decide +kernel

end Go.Proofs.YtibadnfagoehmaaDoor

/- A map whose keys are structs of two ints, made by the call: insertion of a new key, looking one up. -/
import Derived.Test.YtibadnfagoehmaaDoorPrI
import Derived.Maps.OwnSet
import Derived.Laws.StructEq
namespace Go.Proofs.YtibadnfagoehmaaDoor
open Go.RowKit Go.MapKept Go.ChangeMaps

/-- A place as a key. -/
def plK (p r : Int) : Value := .agg #[.int .i64 p, .int .i64 r]

theorem equal_place (p r p' r' : Int) (w : World) : (Op.equal 138 (plK p r) (plK p' r')).run Tryd.prog w = .ok ((p == p') && (r == r')) w := by
  have he := Tryd.underlying3
  have q : ∀ (d : Nat) (x y : Int), (Op.equalIn (d + 1) 3 (.int .i64 x) (.int .i64 y)).run Tryd.prog w = .ok (x == y) w := fun d x y => run_equalIn_int w d 3 .i64 .i64 x y he
  unfold Op.equal plK
  rw [show Op.maxDepth = 9998 + 1 + 1 from rfl]
  go_simp
  by_cases h1 : p = p'
  · by_cases h2 : r = r'
    · simp [h1, h2]
    · simp [h1, h2]
  · simp [h1]

theorem check_place (e : Bool) (p r : Int) (w : World) : (Instr.checkKey e 10000 138 (plK p r)).run Tryd.prog w = .ok () w := by
  kernel_rfl

/-- The entries of a map of places, from number k on. -/
def plE : Nat → List ((Int × Int) × Value) → List MapEntry
  | _, [] => []
  | k, e :: t => ⟨plK e.1.1 e.1.2, e.2, k⟩ :: plE (k + 1) t
/-- Where a place's entry stands, and its value. -/
def plIdx (p r : Int) : Nat → List ((Int × Int) × Value) → Option (Nat × Value)
  | _, [] => none
  | i, e :: t => if ((p == e.1.1) && (r == e.1.2)) = true then some (i, e.2) else plIdx p r (i + 1) t
theorem plE_snoc (p r : Int) (v : Value) : ∀ (es : List ((Int × Int) × Value)) (k : Nat), plE k (es ++ [((p, r), v)]) = plE k es ++ [⟨plK p r, v, k + es.length⟩]
  | [], k => by simp [plE]
  | e :: t, k => by simp [plE, plE_snoc p r v t (k + 1)]; omega

theorem find_asking (p r : Int) (w : World) : ∀ (es : List ((Int × Int) × Value)) (k i : Nat), (Instr.findAsking 138 (plK p r) (plE k es) i).run Tryd.prog w = .ok (plIdx p r i es) w
  | [], k, i => rfl
  | e :: t, k, i => by
    have h := equal_place p r e.1.1 e.1.2 w
    unfold plE Instr.findAsking plIdx
    simp only [Sem.run_bind, h, Result.andThen_ok]
    split
    · rfl
    · exact find_asking p r w t (k + 1) (i + 1)

theorem find_key (p r : Int) (w : World) (es : List ((Int × Int) × Value)) : (Instr.findKey 138 (plK p r) (plE 0 es)).run Tryd.prog w = .ok (plIdx p r 0 es) w := by
  have hu := run_underlying Tryd.underlying138 w
  unfold Instr.findKey
  simp only [Sem.run_bind, hu, Result.andThen_ok]
  cases es with
  | nil => rfl
  | cons e t => exact find_asking p r w (e :: t) 0 0

/-- The map's block. -/
def plO (es : List ((Int × Int) × Value)) : Obj := .map (plE 0 es).toArray es.length

theorem insert_place {w : World} {b : Nat} {es : List ((Int × Int) × Value)} (p r : Int) (v : Value) (hb : w.heap[b]? = some (plO es)) (hn : plIdx p r 0 es = none) :
    (Instr.mapUpdate 88 (.map (some b)) (plK p r) v).run Tryd.prog w = .ok () (setBlock w b (plO (es ++ [((p, r), v)]))) := by
  have hu := run_underlying Tryd.underlying88 w
  have hg := MapKept.run_getObj_map (P := Tryd.prog) hb
  have hc := check_place false p r w
  have hf := find_key p r w es
  rw [hn] at hf
  have hs := MapKept.run_setObj_map (P := Tryd.prog) (plO (es ++ [((p, r), v)])) hb
  have e1 : plO (es ++ [((p, r), v)]) = .map ((plE 0 es).toArray.push ⟨plK p r, v, es.length⟩) (es.length + 1) := by
    unfold plO
    rw [plE_snoc]
    simp
  rw [e1] at hs ⊢
  unfold Instr.mapUpdate
  simp only [Sem.run_bind, hu, Result.andThen_ok, hg, hc, hf]
  exact hs

theorem lookup_place {w : World} {b : Nat} {es : List ((Int × Int) × Value)} (p r : Int) (hb : w.heap[b]? = some (plO es)) :
    (Instr.lookup 88 (.map (some b)) (plK p r) false).run Tryd.prog w = .ok (match plIdx p r 0 es with | some q => q.2 | none => .slice none 0 0) w := by
  have hu := run_underlying Tryd.underlying88 w
  have hg := MapKept.run_getObj_map (P := Tryd.prog) hb
  have hc := fun e => check_place e p r w
  have hf := find_key p r w es
  have hz : (zeroValue 27).run Tryd.prog w = .ok (.slice none 0 0) w := by kernel_rfl
  unfold Instr.lookup
  simp only [Sem.run_bind, hu, Result.andThen_ok, hg, Sem.run_pure, hc, hf]
  cases plIdx p r 0 es with
  | none => simp only [Sem.run_bind, hz, Result.andThen_ok, Sem.run_pure]; rfl
  | some q => rfl

/-- 'map[place][]int{k: v}' at a new key. -/
theorem wpList_insert_place (w : World) {ops : Array Oper} {rest : List Oper} {o : Oper} {a : Act} {Q : Exit → Act → World → Prop} (hg : o.guard = none) (m x v : Operand) (hop : o.op = Op.insert 88 m x v)
    (b : Nat) (es : List ((Int × Int) × Value)) (hm : a.eval m = .map (some b)) (hb : w.heap[b]? = some (plO es)) (p r : Int) (val : Value) (hx : a.eval x = plK p r) (hv : a.eval v = val) (hn : plIdx p r 0 es = none)
    (hK : ∀ w', w'.heap[b]? = some (plO (es ++ [((p, r), val)])) → w.grownBy w' (some b) → wpList Tryd.prog ops Q rest (a.put o.dst undef) w') : wpList Tryd.prog ops Q (o :: rest) a w := by
  refine wpList_plain hg fun K' hK' => ?_
  have hrun := insert_place p r val hb hn
  unfold Oper.wp
  simp [execOp, hop, hm, hx, hv, hrun, Result.andThen]
  refine hK' _ _ (hK _ (heap_setBlock_same hb _) ?_)
  exact ⟨rfl, rfl, rfl, by simp [setBlock], fun i _ hi => heap_setBlock_other hb _ (fun e => hi (by rw [e]))⟩

end Go.Proofs.YtibadnfagoehmaaDoor

/- The specification's NextToken, and all tokens of a string. -/
import Derived.Test.YtbamjhldebobhaaGreatDoorTokB
import Derived.Deep.AppendLies
namespace Go.Proofs.YtbamjhldebobhaaGreatDoor
open Go.RowKit

def ntC (s : ByteArray) (p : Int) : Int := if 65536 < s.size then 2 else if inB p 0 ((s.size : Int) - 1) = true then 0 else 8
def ntT (s : ByteArray) (p : Int) : Tok := if ntC s p = 0 then nextTok s p.toNat else zeroTok
def NtDone (s : ByteArray) (p : Int) (w : World) (e : Ending) (w' : World) : Prop := e = .returned (.tuple #[tokV (ntT s p), .int .i64 (ntC s p)]) ∧ Below w.heap.size w w'

/-- A struct in a slot of its own and a number are handed back. -/
theorem results_row_tmp' {P : Program} {fn : Func} {p u : Tmp} {ty : TypeId} (h : fn.results = #[.cell p ty, .tmp u]) (tmps : Array Value) (w : World) (g : Nat) (t : TypeId) (cs : Array Value) (fr : Nat × Nat) (d : TypeDesc)
    (hp : tmps.getD p undef = .pointer (some ⟨g, 0, none⟩)) (hg : w.heap[g]? = some (.cells cs t fr))
    (hu : P.underlying ty = some d) (hd : (match d with | .struct _ | .array _ _ => true | _ => false) = true) (hi : (P.info? ty).map (·.size) = some cs.size) :
    (results fn tmps).run P w = .ok (.tuple #[.agg cs, tmps.getD u undef]) w := by
  rw [results_cell_tmp h, hp]
  simp [asAddr, run_loadVar_row w g t ty cs fr d hg hu hd hi, Result.andThen]
theorem tok_ret2 {P : Program} {fn : Func} {p u : Tmp} {a : Act} {w1 : World} {g : Nat} {t ty : TypeId} {fr : Nat × Nat} {d : TypeDesc} {y : Tok} {c : Int} {Q : Ending → World → Prop} (h : fn.results = #[.cell p ty, .tmp u])
    (hp : a.tmps.getD p undef = .pointer (some ⟨g, 0, none⟩)) (hc : a.tmps.getD u undef = .int .i64 c) (hg : w1.heap[g]? = some (.cells #[.int .i64 y.k, .int .i64 y.a, .int .i64 y.b, .int .i64 y.c, .int .i64 y.p, .int .i64 y.n] t fr))
    (hu : P.underlying ty = some d) (hd : (match d with | .struct _ | .array _ _ => true | _ => false) = true) (hi : (P.info? ty).map (·.size) = some 6) (hdef : a.defers = []) (hQ : Q (.returned (.tuple #[tokV y, .int .i64 c])) w1) :
    bodyPost P fn Q .ret a w1 :=
  bodyPost_ret (results_row_tmp' h _ _ g _ _ _ _ hp hg hu hd hi) hdef (by rw [hc]; exact hQ)

/-- The slice v of n tokens holds the numbers zs, six a token, in memory of the call's own (from block B on). -/
def OwnK (w : World) (B : Nat) (v : Value) (n : Nat) (zs : List Int) : Prop := w.ownsRow B 102 6 v n (zs.map (Value.int .i64))
def tkZ (ts : List Tok) : List Int := ts.flatMap fun x => [x.k, x.a, x.b, x.c, x.p, x.n]
theorem tkZ_snoc (ts : List Tok) (x : Tok) : tkZ (ts ++ [x]) = tkZ ts ++ [x.k, x.a, x.b, x.c, x.p, x.n] := by simp [tkZ]
theorem tkZ_length (ts : List Tok) : (tkZ ts).length = 6 * ts.length := by
  induction ts with
  | nil => rfl
  | cons s t ih => simp [tkZ] at ih ⊢; omega
theorem OwnK.below {w w' : World} {B C n : Nat} {v : Value} {zs : List Int} (h : OwnK w B v n zs) (hb : Below C w w') (hC : ∀ g, v.ownBlock = some g → g < C) : OwnK w' B v n zs := by
  refine ⟨h.1, ?_⟩
  rcases h.2 with h | ⟨g, cap, cur, a, b, c, d⟩
  · exact .inl h
  · exact .inr ⟨g, cap, cur, a, b, by rw [hb.block g (hC g (by rw [a]; rfl))]; exact c, d⟩
theorem OwnK.all {w w' : World} {B n : Nat} {v : Value} {zs : List Int} (h : OwnK w B v n zs) (hb : Below w.heap.size w w') : OwnK w' B v n zs :=
  h.below hb fun g hg => (World.ownsRow.lt h g hg).2
theorem OwnK.low {w : World} {B B' n : Nat} {v : Value} {zs : List Int} (h : OwnK w B v n zs) (hB : B' ≤ B) : OwnK w B' v n zs := by
  refine ⟨h.1, ?_⟩
  rcases h.2 with h | ⟨g, cap, cur, x1, x2, x3⟩
  · exact .inl h
  · exact .inr ⟨g, cap, cur, x1, by omega, x3⟩
theorem OwnK.nil (w : World) (B : Nat) : OwnK w B (.slice none 0 0) 0 [] := World.ownsRow_nil w B _ 6

theorem info_tok : ∃ i, Tryz.prog.info? 102 = some i ∧ i.zero = some (.agg #[.int .i64 0, .int .i64 0, .int .i64 0, .int .i64 0, .int .i64 0, .int .i64 0]) ∧ i.size = 6 ∧ i.bytes = 48 := info_parts (by kernel_rfl)

/-- A list of tokens in new memory. -/
def ToksDone (w : World) (ts : List Tok) (e : Ending) (w' : World) : Prop := ∃ v, e = .returned v ∧ OwnK w' w.heap.size v ts.length (tkZ ts) ∧ Below w.heap.size w w'

def tksC (s : ByteArray) : Int := if 65536 < s.size then 2 else if 4096 < (toksOf s).length then 6 else 0
def tksT (s : ByteArray) : List Tok := if tksC s = 0 then toksOf s else []
def TksDone (s : ByteArray) (w : World) (e : Ending) (w' : World) : Prop := ∃ v, e = .returned (.tuple #[v, .int .i64 (tksC s)]) ∧ OwnK w' w.heap.size v (tksT s).length (tkZ (tksT s)) ∧ Below w.heap.size w w'
theorem OwnK.empty (w : World) (B : Nat) (hB : B ≤ w.heap.size) : OwnK (w.alloc (.cells #[] 102)) B (.slice (some ⟨w.heap.size, 0, none⟩) 0 0) 0 [] :=
  World.ownsRow_lit (base := B) (e := 102) (size := 6) w #[] 0 hB (by decide) (by simp)
theorem OwnK.form {w : World} {B n : Nat} {v : Value} {zs : List Int} (h : OwnK w B v n zs) : ∃ a cap, v = .slice a n cap := by
  rcases h.2 with ⟨hv, h0⟩ | ⟨g, cap, cur, a, _⟩
  · exact ⟨none, 0, by rw [hv, h0]⟩
  · exact ⟨_, cap, a⟩

end Go.Proofs.YtbamjhldebobhaaGreatDoor

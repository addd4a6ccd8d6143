/- The specification's NextToken, and all tokens of a string. -/
import Derived.Test.YtbamjhldebobhaaDoorTokB
import Derived.Deep.AppendLies
namespace Go.Proofs.YtbamjhldebobhaaDoor
open Go.RowKit

def ntC (s : ByteArray) (p : Int) : Int := if 65536 < s.size then 2 else if inB p 0 ((s.size : Int) - 1) = true then 0 else 8
def ntT (s : ByteArray) (p : Int) : Tok := if ntC s p = 0 then nextTok s p.toNat else zeroTok
def NtDone (s : ByteArray) (p : Int) (w : World) (e : Ending) (w' : World) : Prop := e = .returned (.tuple #[tokV (ntT s p), .int .i64 (ntC s p)]) ∧ Below w.heap.size w w'

/-- A struct in a slot of its own and a number are handed back. -/
theorem results_row_tmp' {P : Program} {fn : Func} {p u : Tmp} {ty : TypeId} (h : fn.results = #[.cell p ty, .tmp u]) (tmps : Array Value) (w : World) (g : Nat) (t : TypeId) (cs : Array Value) (fr : Nat × Nat) (d : TypeDesc)
    (hp : tmps.getD p undef = .pointer (some ⟨g, 0, none⟩)) (hg : w.heap[g]? = some (.cells cs t fr))
    (hu : P.underlying ty = some d) (hd : (match d with | .struct _ | .array _ _ => true | _ => false) = true) (hi : (P.info? ty).map (·.size) = some cs.size) :
    (results fn tmps).run P w = .ok (.tuple #[.agg cs, tmps.getD u undef]) w := by
  rw [results_cell_tmp h, hp]
  simp [asAddr, run_loadVar_row w g t ty cs fr d hg hu hd hi, Result.andThen]
theorem tok_ret2 {P : Program} {fn : Func} {p u : Tmp} {a : Act} {w1 : World} {g : Nat} {t ty : TypeId} {fr : Nat × Nat} {d : TypeDesc} {y : Tok} {c : Int} {Q : Ending → World → Prop} (h : fn.results = #[.cell p ty, .tmp u])
    (hp : a.tmps.getD p undef = .pointer (some ⟨g, 0, none⟩)) (hc : a.tmps.getD u undef = .int .i64 c) (hg : w1.heap[g]? = some (.cells #[.int .i64 y.k, .int .i64 y.a, .int .i64 y.b, .int .i64 y.c, .int .i64 y.p, .int .i64 y.n] t fr))
    (hu : P.underlying ty = some d) (hd : (match d with | .struct _ | .array _ _ => true | _ => false) = true) (hi : (P.info? ty).map (·.size) = some 6) (hdef : a.defers = []) (hQ : Q (.returned (.tuple #[tokV y, .int .i64 c])) w1) :
    bodyPost P fn Q .ret a w1 :=
  bodyPost_ret (results_row_tmp' h _ _ g _ _ _ _ hp hg hu hd hi) hdef (by rw [hc]; exact hQ)

/-- The slice v of n tokens holds the numbers zs, six a token, in memory of the call's own (from block B on). -/
def OwnK (w : World) (B : Nat) (v : Value) (n : Nat) (zs : List Int) : Prop := w.ownsRow B 38 6 v n (zs.map (Value.int .i64))
def tkZ (ts : List Tok) : List Int := ts.flatMap fun x => [x.k, x.a, x.b, x.c, x.p, x.n]
theorem tkZ_snoc (ts : List Tok) (x : Tok) : tkZ (ts ++ [x]) = tkZ ts ++ [x.k, x.a, x.b, x.c, x.p, x.n] := by simp [tkZ]
theorem tkZ_length (ts : List Tok) : (tkZ ts).length = 6 * ts.length := by
  induction ts with
  | nil => rfl
  | cons s t ih => simp [tkZ] at ih ⊢; omega
theorem OwnK.below {w w' : World} {B C n : Nat} {v : Value} {zs : List Int} (h : OwnK w B v n zs) (hb : Below C w w') (hC : ∀ g, v.ownBlock = some g → g < C) : OwnK w' B v n zs := by
  refine ⟨h.1, ?_⟩
  rcases h.2 with h | ⟨g, cap, cur, a, b, c, d⟩
  · exact .inl h
  · exact .inr ⟨g, cap, cur, a, b, by rw [hb.block g (hC g (by rw [a]; rfl))]; exact c, d⟩
theorem OwnK.all {w w' : World} {B n : Nat} {v : Value} {zs : List Int} (h : OwnK w B v n zs) (hb : Below w.heap.size w w') : OwnK w' B v n zs :=
  h.below hb fun g hg => (World.ownsRow.lt h g hg).2
theorem OwnK.low {w : World} {B B' n : Nat} {v : Value} {zs : List Int} (h : OwnK w B v n zs) (hB : B' ≤ B) : OwnK w B' v n zs := by
  refine ⟨h.1, ?_⟩
  rcases h.2 with h | ⟨g, cap, cur, x1, x2, x3⟩
  · exact .inl h
  · exact .inr ⟨g, cap, cur, x1, by omega, x3⟩
theorem OwnK.nil (w : World) (B : Nat) : OwnK w B (.slice none 0 0) 0 [] := World.ownsRow_nil w B _ 6

theorem info_tok : ∃ i, Tryd.prog.info? 38 = some i ∧ i.zero = some (.agg #[.int .i64 0, .int .i64 0, .int .i64 0, .int .i64 0, .int .i64 0, .int .i64 0]) ∧ i.size = 6 ∧ i.bytes = 48 := info_parts (by kernel_rfl)

/-- 'append(s, x)' of one token. -/
theorem app_tok (w : World) {ops : Array Oper} {rest : List Oper} {o : Oper} {a : Act} {Q : Exit → Act → World → Prop} (hg : o.guard = none) (s x : Operand)
    (hop : o.op = Op.call { callee := Callee.builtin Builtin.append, args := #[s, x], argTypes := #[32, 32] }) (B : Nat) (v : Value) (n : Nat) (zs : List Int) (hs : a.eval s = v) (hown : OwnK w B v n zs)
    (ad : Addr) (c : Nat) (y : Tok) (hx : a.eval x = .slice (some ad) 1 c)
    (hc : ∀ j u, (tokCells y)[j]? = some u → w.cell? (ad.add j) = some u) (hb : n ≤ 1048576) (hB : B ≤ w.heap.size)
    (K : ∀ g cap w', OwnK w' B (.slice (some ⟨g, 0, none⟩) (n + 1) cap) (n + 1) (zs ++ [y.k, y.a, y.b, y.c, y.p, y.n]) → w.grownBy w' v.ownBlock → g < w'.heap.size → wpList Tryd.prog ops Q rest (a.put o.dst (.slice (some ⟨g, 0, none⟩) (n + 1) cap)) w') : wpList Tryd.prog ops Q (o :: rest) a w := by
  obtain ⟨i, h1, h2, h3, h4⟩ := info_tok
  refine wpList_append_lies w hg s x 32 hop B 38 i _ 6 48 Tryd.underlying32 h1 h2 h3 h4 rfl (by decide) v n _ hs hown ad 1 c (tokCells y) hx (by simp [tokCells]) hc ?_ (by decide) (by unfold maxLen; omega) (by omega) hB _ rfl ?_
  · intro u hu
    simp only [tokCells, List.mem_cons, List.not_mem_nil, or_false] at hu
    rcases hu with rfl | rfl | rfl | rfl | rfl | rfl <;> rfl
  · intro g cap w' h' hg' _ hlt
    exact K g cap w' (by unfold OwnK; rw [List.map_append]; exact h') hg' hlt

/-- A list of tokens in new memory. -/
def ToksDone (w : World) (ts : List Tok) (e : Ending) (w' : World) : Prop := ∃ v, e = .returned v ∧ OwnK w' w.heap.size v ts.length (tkZ ts) ∧ Below w.heap.size w w'

set_option maxHeartbeats 1000000 in
set_option maxRecDepth 100000 in
theorem spec_l03All (s : ByteArray) (w : World) (hs : s.size ≤ 1048576) : Calls Tryd.prog 31 #[.string s] w (ToksDone w (toksOf s)) := by
  go_enter Tryd.func31, Tryd.ntmps31
  go_wp2
  go_loopw [3, 4] (fun v i wr => ∃ (k f : Nat) (ts : List Tok), k ≤ s.size ∧ i = .int .i64 k ∧ Hid (s.size ≤ k + f) ∧ ts.length ≤ k ∧ Hid (toksOf s = ts ++ toksFrom s f k) ∧ OwnK wr w.heap.size v ts.length (tkZ ts) ∧ Below w.heap.size w wr) (fun _ i _ => s.size - (intOf i).toNat)
  case atStart =>
    refine ⟨0, s.size, [], by omega, rfl, Lib.hid (by omega), by simp, Lib.hid rfl, ?_, (Below.refl _ _).alloc (Nat.le_refl _) _⟩
    exact World.ownsRow_lit (base := w.heap.size) (e := 38) (size := 6) w #[] 0 (Nat.le_refl _) (by decide) (by simp)
  case round =>
    obtain ⟨k, f, ts, hk, rfl, HF, hts, HT, ho, hb⟩ := hrel
    by_cases hlt : k < s.size
    · obtain ⟨f, rfl⟩ : ∃ q, f = q + 1 := ⟨f - 1, by have := HF.out; omega⟩
      have v2 : (k : Int) < (s.size : Int) := by omega
      have HU : Hid (toksFrom s (f + 1) k = nextTok s k :: toksFrom s f (k + (nextTok s k).n.toNat)) := Lib.hid (by rw [toksFrom, if_pos hlt])
      have n1 := (nextTok_in s k hlt).2.1
      have n2 := (nextTok_in s k hlt).2.2
      go_wp2_with fail
      refine (spec_l03Next s k wr hlt hs).mono ?_
      rintro e w1 ⟨rfl, b1⟩
      have o1 := ho.all b1
      have B1 : Below w.heap.size w w1 := hb.trans (b1.mono hb.size)
      have hsz := B1.size
      clear ho hb b1
      generalize nextTok s k = y at *
      have u1 : IntKind.i64.wrap ((k : Int) + y.n) = (k : Int) + y.n := IntWalk.i64_in _ (by omega)
      have L1 := Lib.hid (fun g hg => (World.ownsRow.lt o1 g hg).2)
      have hX : TokAt ((w1.alloc (.cells #[.int .i64 y.k, .int .i64 y.a, .int .i64 y.b, .int .i64 y.c, .int .i64 y.p, .int .i64 y.n] 38)).alloc (.cells #[.int .i64 y.k, .int .i64 y.a, .int .i64 y.b, .int .i64 y.c, .int .i64 y.p, .int .i64 y.n] 38)) w1.heap.size y := heap_alloc2_old _ _ _
      have HX := Lib.hid hX
      have hnw := World.news_of_block (show ((w1.alloc (.cells #[.int .i64 y.k, .int .i64 y.a, .int .i64 y.b, .int .i64 y.c, .int .i64 y.p, .int .i64 y.n] 38)).alloc (.cells #[.int .i64 y.k, .int .i64 y.a, .int .i64 y.b, .int .i64 y.c, .int .i64 y.p, .int .i64 y.n] 38)).heap[w1.heap.size + 1]? = some (.cells (tokCells y).toArray 38) from heap_alloc2_new _ _ _)
      have HNW := Lib.hid hnw
      clear hX hnw
      unfold tokV
      go_wp2_with (at_builtin; refine app_tok _ rfl _ _ rfl w.heap.size _ ts.length (tkZ ts) rfl ((o1.all (below_one _ _)).all (below_one _ _)) ⟨w1.heap.size + 1, 0, none⟩ 1 y rfl HNW.out (by omega) (by simp; omega) ?_)
      intro g cap2 w4 o4 g4 lt4
      have hx4 : TokAt w4 w1.heap.size y := (g4.block _ (by simp; omega) (fun h => by have := L1.out _ h.symm; omega)).trans HX.out
      have ⟨_, _, _, _, _, x5⟩ := hx4.cells
      have B4 : Below w.heap.size w w4 := ((B1.alloc hsz _).alloc (by simp; omega) _).grown g4 (by simp; omega) (fun j hj => (World.ownsRow.lt o1 j hj).1)
      obtain ⟨m, hm⟩ := Int.eq_ofNat_of_zero_le (show 0 ≤ y.n by omega)
      have HM := Lib.hid hm
      have hm1 : 1 ≤ m := by omega
      have hm2 : k + m ≤ s.size := by omega
      have e5 : (k : Int) + y.n = ((k + m : Nat) : Int) := by omega
      clear HX L1 o1 B1 g4 hx4 hm
      go_wp2
      go_roundw
      case rel => exact ⟨k + m, f, ts ++ [y], hm2, by simp, Lib.hid (by have := HF.out; omega), by simp; omega, Lib.hid (by rw [HT.out, HU.out, HM.out]; simp), by rw [tkZ_snoc, List.length_append]; exact o4, B4⟩
      case measure => simp [intOf]; omega
    · have hks : s.size ≤ k := by omega
      have HE : Hid (toksOf s = ts) := Lib.hid (by
        rw [HT.out]
        cases f with
        | zero => simp [toksFrom]
        | succ f => rw [toksFrom, if_neg hlt, List.append_nil])
      go_wp2
      go_ret
      exact ⟨_, rfl, by rw [HE.out]; exact ho, hb⟩

def tksC (s : ByteArray) : Int := if 65536 < s.size then 2 else if 4096 < (toksOf s).length then 6 else 0
def tksT (s : ByteArray) : List Tok := if tksC s = 0 then toksOf s else []
def TksDone (s : ByteArray) (w : World) (e : Ending) (w' : World) : Prop := ∃ v, e = .returned (.tuple #[v, .int .i64 (tksC s)]) ∧ OwnK w' w.heap.size v (tksT s).length (tkZ (tksT s)) ∧ Below w.heap.size w w'
theorem OwnK.empty (w : World) (B : Nat) (hB : B ≤ w.heap.size) : OwnK (w.alloc (.cells #[] 38)) B (.slice (some ⟨w.heap.size, 0, none⟩) 0 0) 0 [] :=
  World.ownsRow_lit (base := B) (e := 38) (size := 6) w #[] 0 hB (by decide) (by simp)
theorem OwnK.form {w : World} {B n : Nat} {v : Value} {zs : List Int} (h : OwnK w B v n zs) : ∃ a cap, v = .slice a n cap := by
  rcases h.2 with ⟨hv, h0⟩ | ⟨g, cap, cur, a, _⟩
  · exact ⟨none, 0, by rw [hv, h0]⟩
  · exact ⟨_, cap, a⟩

set_option maxHeartbeats 1000000 in
theorem spec_TokensOf (s : ByteArray) (w : World) (hs : s.size ≤ 9223372036854775807) : Calls Tryd.prog 10 #[.string s] w (TksDone s w) := by
  by_cases h1 : 65536 < s.size
  · have HC : Hid (tksC s = 2) := Lib.hid (by simp [tksC, h1])
    have HT : Hid (tksT s = []) := Lib.hid (by simp [tksT, HC.out])
    have h1' : (65536 : Int) < (s.size : Int) := by omega
    go_enter Tryd.func10, Tryd.ntmps10
    go_wp2
    go_ret2
    exact ⟨_, by rw [HC.out]; rfl, by rw [HT.out]; exact OwnK.empty w _ (Nat.le_refl _), below_one _ _⟩
  · have h1' : (s.size : Int) ≤ 65536 := by omega
    go_enter Tryd.func10, Tryd.ntmps10
    go_wp2_with fail
    refine (spec_l03All s w (by omega)).mono ?_
    rintro e w2 ⟨v, rfl, o2, b2⟩
    obtain ⟨va, vc, rfl⟩ := o2.form
    by_cases h2 : 4096 < (toksOf s).length
    · have HC : Hid (tksC s = 6) := Lib.hid (by simp [tksC, h1, h2])
      have HT : Hid (tksT s = []) := Lib.hid (by simp [tksT, HC.out])
      have h2' : (4096 : Int) < ((toksOf s).length : Int) := by omega
      go_wp2
      go_ret2
      exact ⟨_, by rw [HC.out]; rfl, by rw [HT.out]; exact OwnK.empty w2 _ b2.size, b2.alloc b2.size _⟩
    · have HC : Hid (tksC s = 0) := Lib.hid (by simp [tksC, h1, h2])
      have HT : Hid (tksT s = toksOf s) := Lib.hid (by simp [tksT, HC.out])
      have h2' : ((toksOf s).length : Int) ≤ 4096 := by omega
      go_wp2
      go_ret2
      exact ⟨_, by rw [HC.out]; rfl, by rw [HT.out]; exact o2, b2⟩

end Go.Proofs.YtbamjhldebobhaaDoor

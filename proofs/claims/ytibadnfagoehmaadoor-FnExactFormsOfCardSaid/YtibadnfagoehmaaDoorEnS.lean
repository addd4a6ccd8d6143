/- Slices of strings, of states and of moves in memory of the call's own. No condition. -/
import Derived.Test.YtibadnfagoehmaaDoorTokL
import Derived.Test.YtibadnfagoehmaaDoorStA
import Derived.Test.YtibadnfagoehmaaDoorEnM
import Derived.Deep.AppendLies
import Derived.Lib.SmallJoins
namespace Go.Proofs.YtibadnfagoehmaaDoor
open Go.RowKit

theorem rowBelow {w w' : World} {B C k n : Nat} {e : TypeId} {v : Value} {xs : List Value} (h : w.ownsRow B e k v n xs) (hb : Below C w w') (hC : ∀ g, v.ownBlock = some g → g < C) : w'.ownsRow B e k v n xs := by
  refine ⟨h.1, ?_⟩
  rcases h.2 with h | ⟨g, cap, cur, a, b, c, d⟩
  · exact .inl h
  · exact .inr ⟨g, cap, cur, a, b, by rw [hb.block g (hC g (by rw [a]; rfl))]; exact c, d⟩
theorem rowAll {w w' : World} {B k n : Nat} {e : TypeId} {v : Value} {xs : List Value} (h : w.ownsRow B e k v n xs) (hb : Below w.heap.size w w') : w'.ownsRow B e k v n xs :=
  rowBelow h hb fun g hg => (World.ownsRow.lt h g hg).2
theorem rowStay {w w' : World} {B k n : Nat} {e : TypeId} {v : Value} {xs : List Value} (h : w.ownsRow B e k v n xs) (hb : ∀ g, v.ownBlock = some g → w'.heap[g]? = w.heap[g]?) : w'.ownsRow B e k v n xs := by
  refine ⟨h.1, ?_⟩
  rcases h.2 with h | ⟨g, cap, cur, a, b, c, d⟩
  · exact .inl h
  · exact .inr ⟨g, cap, cur, a, b, by rw [hb g (by rw [a]; rfl)]; exact c, d⟩

/-- The cells of a state, of states. -/
def stCells (x : St) : List Value := [.int .i64 x.g0, .int .i64 x.g1, .int .i64 x.g2, .int .i64 x.g3, .int .i64 x.l, .int .i64 x.s, .int .i64 x.d]
def xsCells (xs : List St) : List Value := xs.flatMap stCells
def mvCells (m : Mv) : List Value := .string m.1 :: stCells m.2
def msCells (ms : List Mv) : List Value := ms.flatMap mvCells
theorem stCells_length (x : St) : (stCells x).length = 7 := rfl
theorem mvCells_length (x : Mv) : (mvCells x).length = 8 := rfl
theorem flat_length {α : Type} (f : α → List Value) (k : Nat) (hf : ∀ x, (f x).length = k) : ∀ xs : List α, (xs.flatMap f).length = xs.length * k
  | [] => by simp
  | x :: xs => by rw [List.flatMap_cons, List.length_append, hf, flat_length f k hf xs, List.length_cons, Nat.succ_mul, Nat.add_comm]
theorem flat_at {α : Type} (f : α → List Value) (k : Nat) (hf : ∀ x, (f x).length = k) : ∀ (xs : List α) (i : Nat) (h : i < xs.length) (j : Nat), j < k → (xs.flatMap f)[i * k + j]? = (f xs[i])[j]?
  | [], i, h, _, _ => by simp at h
  | x :: xs, 0, h, j, hj => by
    rw [List.flatMap_cons, List.getElem?_append_left (by rw [hf]; omega)]
    simp
  | x :: xs, i + 1, h, j, hj => by
    have h2 : i < xs.length := by simpa using h
    have := flat_at f k hf xs i h2 j hj
    rw [List.flatMap_cons, List.getElem?_append_right (by rw [hf, Nat.succ_mul]; omega), hf]
    rw [show (i + 1) * k + j - k = i * k + j by rw [Nat.succ_mul]; omega]
    simpa using this

/-- The slice v reads as the strings ts; as the states xs; as the moves ms. -/
def StrsAt (w : World) (v : Value) (ts : List ByteArray) : Prop :=
  (ts = [] ∧ ∃ a c, v = .slice a 0 c) ∨ ∃ g off c, v = .slice (some ⟨g, off, none⟩) ts.length c ∧ ∀ i (h : i < ts.length), w.cell? ⟨g, off + i, none⟩ = some (.string ts[i])
def RowAt (k : Nat) (w : World) (g off : Nat) (us : List Value) : Prop := ∀ j (h : j < us.length), j < k → w.cell? ⟨g, off + j, none⟩ = some us[j]
def StsAt (w : World) (v : Value) (xs : List St) : Prop :=
  (xs = [] ∧ ∃ a c, v = .slice a 0 c) ∨ ∃ g off c, v = .slice (some ⟨g, off, none⟩) xs.length c ∧ ∀ i (h : i < xs.length), RowAt 7 w g (off + i * 7) (stCells xs[i])
def MvsAt (w : World) (v : Value) (ms : List Mv) : Prop :=
  (ms = [] ∧ ∃ a c, v = .slice a 0 c) ∨ ∃ g off c, v = .slice (some ⟨g, off, none⟩) ms.length c ∧ ∀ i (h : i < ms.length), RowAt 8 w g (off + i * 8) (mvCells ms[i])
theorem cell_keep {w w' : World} (hb : Below w.heap.size w w') {p : Addr} {x : Value} (hx : w.cell? p = some x) : w'.cell? p = some x := by
  rw [hb.cell (World.block_lt_of_cell? w _ hx)]; exact hx
theorem StrsAt.keep {w w' : World} {v : Value} {ts : List ByteArray} (h : StrsAt w v ts) (hb : Below w.heap.size w w') : StrsAt w' v ts := by
  rcases h with h | ⟨g, off, c, rfl, hc⟩
  · exact .inl h
  · exact .inr ⟨g, off, c, rfl, fun i hi => cell_keep hb (hc i hi)⟩
theorem StsAt.keep {w w' : World} {v : Value} {xs : List St} (h : StsAt w v xs) (hb : Below w.heap.size w w') : StsAt w' v xs := by
  rcases h with h | ⟨g, off, c, rfl, hc⟩
  · exact .inl h
  · exact .inr ⟨g, off, c, rfl, fun i hi j hj hk => cell_keep hb (hc i hi j hj hk)⟩
theorem MvsAt.keep {w w' : World} {v : Value} {ms : List Mv} (h : MvsAt w v ms) (hb : Below w.heap.size w w') : MvsAt w' v ms := by
  rcases h with h | ⟨g, off, c, rfl, hc⟩
  · exact .inl h
  · exact .inr ⟨g, off, c, rfl, fun i hi j hj hk => cell_keep hb (hc i hi j hj hk)⟩
theorem StrsAt.form {w : World} {v : Value} {ts : List ByteArray} (h : StrsAt w v ts) : ∃ a c, v = .slice a ts.length c := by
  rcases h with ⟨rfl, a, c, rfl⟩ | ⟨g, off, c, rfl, _⟩ <;> exact ⟨_, _, rfl⟩
theorem StsAt.form {w : World} {v : Value} {xs : List St} (h : StsAt w v xs) : ∃ a c, v = .slice a xs.length c := by
  rcases h with ⟨rfl, a, c, rfl⟩ | ⟨g, off, c, rfl, _⟩ <;> exact ⟨_, _, rfl⟩
theorem MvsAt.form {w : World} {v : Value} {ms : List Mv} (h : MvsAt w v ms) : ∃ a c, v = .slice a ms.length c := by
  rcases h with ⟨rfl, a, c, rfl⟩ | ⟨g, off, c, rfl, _⟩ <;> exact ⟨_, _, rfl⟩
theorem StrsAt.pick {w : World} {a : Option Addr} {n c : Nat} {ts : List ByteArray} (h : StrsAt w (.slice a n c) ts) (i : Nat) (hi : i < ts.length) : ∃ g off, a = some ⟨g, off, none⟩ ∧ w.cell? ⟨g, off + i, none⟩ = some (.string ts[i]) := by
  rcases h with ⟨h0, _⟩ | ⟨g, off, c2, hv, hc⟩
  · rw [h0] at hi; simp at hi
  · injection hv with h1 h2 h3
    exact ⟨g, off, h1, hc i hi⟩
theorem StsAt.pick {w : World} {a : Option Addr} {n c : Nat} {xs : List St} (h : StsAt w (.slice a n c) xs) (i : Nat) (hi : i < xs.length) : ∃ g off, a = some ⟨g, off, none⟩ ∧ w.cell? ⟨g, off + i * 7, none⟩ = some (.int .i64 (xs[i]).g0) ∧ w.cell? ⟨g, off + i * 7 + 1, none⟩ = some (.int .i64 (xs[i]).g1) ∧ w.cell? ⟨g, off + i * 7 + 2, none⟩ = some (.int .i64 (xs[i]).g2) ∧ w.cell? ⟨g, off + i * 7 + 3, none⟩ = some (.int .i64 (xs[i]).g3) ∧ w.cell? ⟨g, off + i * 7 + 4, none⟩ = some (.int .i64 (xs[i]).l) ∧ w.cell? ⟨g, off + i * 7 + 5, none⟩ = some (.int .i64 (xs[i]).s) ∧ w.cell? ⟨g, off + i * 7 + 6, none⟩ = some (.int .i64 (xs[i]).d) := by
  rcases h with ⟨h0, _⟩ | ⟨g, off, c2, hv, hc⟩
  · rw [h0] at hi; simp at hi
  · injection hv with h1 h2 h3
    have H := hc i hi
    exact ⟨g, off, h1, H 0 (by simp [stCells]) (by omega), H 1 (by simp [stCells]) (by omega), H 2 (by simp [stCells]) (by omega), H 3 (by simp [stCells]) (by omega), H 4 (by simp [stCells]) (by omega), H 5 (by simp [stCells]) (by omega), H 6 (by simp [stCells]) (by omega)⟩
theorem MvsAt.pick {w : World} {a : Option Addr} {n c : Nat} {ms : List Mv} (h : MvsAt w (.slice a n c) ms) (i : Nat) (hi : i < ms.length) : ∃ g off, a = some ⟨g, off, none⟩ ∧ w.cell? ⟨g, off + i * 8, none⟩ = some (.string (ms[i]).1) ∧ w.cell? ⟨g, off + i * 8 + 1, none⟩ = some (.int .i64 (ms[i]).2.g0) ∧ w.cell? ⟨g, off + i * 8 + 2, none⟩ = some (.int .i64 (ms[i]).2.g1) ∧ w.cell? ⟨g, off + i * 8 + 3, none⟩ = some (.int .i64 (ms[i]).2.g2) ∧ w.cell? ⟨g, off + i * 8 + 4, none⟩ = some (.int .i64 (ms[i]).2.g3) ∧ w.cell? ⟨g, off + i * 8 + 5, none⟩ = some (.int .i64 (ms[i]).2.l) ∧ w.cell? ⟨g, off + i * 8 + 6, none⟩ = some (.int .i64 (ms[i]).2.s) ∧ w.cell? ⟨g, off + i * 8 + 7, none⟩ = some (.int .i64 (ms[i]).2.d) := by
  rcases h with ⟨h0, _⟩ | ⟨g, off, c2, hv, hc⟩
  · rw [h0] at hi; simp at hi
  · injection hv with h1 h2 h3
    have H := hc i hi
    exact ⟨g, off, h1, H 0 (by simp [mvCells, stCells]) (by omega), H 1 (by simp [mvCells, stCells]) (by omega), H 2 (by simp [mvCells, stCells]) (by omega), H 3 (by simp [mvCells, stCells]) (by omega), H 4 (by simp [mvCells, stCells]) (by omega), H 5 (by simp [mvCells, stCells]) (by omega), H 6 (by simp [mvCells, stCells]) (by omega), H 7 (by simp [mvCells, stCells]) (by omega)⟩

def OwnS (w : World) (B : Nat) (v : Value) (ts : List ByteArray) : Prop := w.ownsRow B 9 1 v ts.length (ts.map Value.string)
def OwnT (w : World) (B : Nat) (v : Value) (xs : List St) : Prop := w.ownsRow B 24 7 v xs.length (xsCells xs)
theorem OwnS.nil (w : World) (B : Nat) : OwnS w B (.slice none 0 0) [] := World.ownsRow_nil w B _ 1
theorem OwnT.nil (w : World) (B : Nat) : OwnT w B (.slice none 0 0) [] := World.ownsRow_nil w B _ 7
theorem OwnS.empty (w : World) (B : Nat) (hB : B ≤ w.heap.size) : OwnS (w.alloc (.cells #[] 9)) B (.slice (some ⟨w.heap.size, 0, none⟩) 0 0) [] :=
  World.ownsRow_lit (base := B) (e := 9) (size := 1) w #[] 0 hB (by decide) (by decide)
theorem OwnT.empty (w : World) (B : Nat) (hB : B ≤ w.heap.size) : OwnT (w.alloc (.cells #[] 24)) B (.slice (some ⟨w.heap.size, 0, none⟩) 0 0) [] :=
  World.ownsRow_lit (base := B) (e := 24) (size := 7) w #[] 0 hB (by decide) (by decide)
theorem OwnS.all {w w' : World} {B : Nat} {v : Value} {ts : List ByteArray} (h : OwnS w B v ts) (hb : Below w.heap.size w w') : OwnS w' B v ts := rowAll h hb
theorem OwnT.all {w w' : World} {B : Nat} {v : Value} {xs : List St} (h : OwnT w B v xs) (hb : Below w.heap.size w w') : OwnT w' B v xs := rowAll h hb
theorem OwnS.form {w : World} {B : Nat} {v : Value} {ts : List ByteArray} (h : OwnS w B v ts) : ∃ a c, v = .slice a ts.length c := by
  rcases h.2 with ⟨h1, h2⟩ | ⟨g, cap, cur, x1, _⟩
  · exact ⟨none, 0, by rw [h1, h2]⟩
  · exact ⟨_, _, x1⟩
theorem OwnT.form {w : World} {B : Nat} {v : Value} {xs : List St} (h : OwnT w B v xs) : ∃ a c, v = .slice a xs.length c := by
  rcases h.2 with ⟨h1, h2⟩ | ⟨g, cap, cur, x1, _⟩
  · exact ⟨none, 0, by rw [h1, h2]⟩
  · exact ⟨_, _, x1⟩
theorem OwnS.reads {w : World} {B : Nat} {v : Value} {ts : List ByteArray} (h : OwnS w B v ts) : StrsAt w v ts := by
  rcases h.2 with ⟨h1, h2⟩ | ⟨g, cap, cur, rfl, _⟩
  · exact .inl ⟨List.length_eq_zero_iff.1 h2, none, 0, h1⟩
  · refine .inr ⟨g, 0, cap, rfl, fun i hi => ?_⟩
    have h2 := World.ownsRow.cells h (g := g) rfl i (.string ts[i]) (by simp [List.getElem?_eq_getElem hi])
    rw [add_off] at h2; exact h2
theorem row_reads {α : Type} (f : α → List Value) (k : Nat) (hf : ∀ x, (f x).length = k) {w : World} {B g cap n : Nat} {e : TypeId} {xs : List α} (h : w.ownsRow B e k (.slice (some ⟨g, 0, none⟩) n cap) n (xs.flatMap f)) (i : Nat) (hi : i < xs.length) : RowAt k w g (0 + i * k) (f xs[i]) := by
  intro j hj hk
  have h2 := World.ownsRow.cells h (g := g) rfl (i * k + j) (f xs[i])[j] (by rw [flat_at f k hf xs i hi j hk]; exact List.getElem?_eq_getElem hj)
  rw [add_off] at h2
  rw [show 0 + i * k + j = 0 + (i * k + j) by omega]; exact h2
theorem OwnT.reads {w : World} {B : Nat} {v : Value} {xs : List St} (h : OwnT w B v xs) : StsAt w v xs := by
  rcases h.2 with ⟨h1, h2⟩ | ⟨g, cap, cur, rfl, _⟩
  · exact .inl ⟨List.length_eq_zero_iff.1 h2, none, 0, h1⟩
  · exact .inr ⟨g, 0, cap, rfl, fun i hi => row_reads stCells 7 stCells_length h i hi⟩

theorem info_str : ∃ i, Tryd.prog.info? 9 = some i ∧ i.zero = some (.string ⟨#[]⟩) ∧ i.size = 1 ∧ i.bytes = 16 := info_parts (by kernel_rfl)
theorem info_st : ∃ i, Tryd.prog.info? 24 = some i ∧ i.zero = some (.agg #[.int .i64 0, .int .i64 0, .int .i64 0, .int .i64 0, .int .i64 0, .int .i64 0, .int .i64 0]) ∧ i.size = 7 ∧ i.bytes = 56 := info_parts (by kernel_rfl)
theorem stCells_one (x : St) : ∀ u ∈ stCells x, u.oneCell' = true := by
  intro u hu
  simp only [stCells, List.mem_cons, List.not_mem_nil, or_false] at hu
  rcases hu with rfl | rfl | rfl | rfl | rfl | rfl | rfl <;> rfl
theorem mvCells_one (x : Mv) : ∀ u ∈ mvCells x, u.oneCell' = true := by
  intro u hu
  rcases List.mem_cons.1 hu with rfl | hu
  · rfl
  · exact stCells_one _ u hu

/-- 'append(s, x)' of one string. -/
theorem app_str (w : World) {ops : Array Oper} {rest : List Oper} {o : Oper} {a : Act} {Q : Exit → Act → World → Prop} (hg : o.guard = none) (s x : Operand)
    (hop : o.op = Op.call { callee := Callee.builtin Builtin.append, args := #[s, x], argTypes := #[50, 50] }) (B : Nat) (v : Value) (ts : List ByteArray) (hs : a.eval s = v) (hown : OwnS w B v ts)
    (b c : Nat) (u : ByteArray) (hx : a.eval x = .slice (some ⟨b, 0, none⟩) 1 c)
    (hc : w.heap[b]? = some (.cells #[.string u] 9)) (hb : ts.length ≤ 1048576) (hB : B ≤ w.heap.size)
    (K : ∀ g cap w', OwnS w' B (.slice (some ⟨g, 0, none⟩) (ts.length + 1) cap) (ts ++ [u]) → w.grownBy w' v.ownBlock → (v.ownBlock = some g ∨ g = w.heap.size) → g < w'.heap.size → wpList Tryd.prog ops Q rest (a.put o.dst (.slice (some ⟨g, 0, none⟩) (ts.length + 1) cap)) w') : wpList Tryd.prog ops Q (o :: rest) a w := by
  obtain ⟨i, h1, h2, h3, h4⟩ := info_str
  refine wpList_append_lies w hg s x 50 hop B 9 i (.string ⟨#[]⟩) 1 16 Tryd.underlying50 h1 h2 h3 h4 rfl (by decide) v _ _ hs hown ⟨b, 0, none⟩ 1 c [.string u] hx rfl (World.news_of_block hc) ?_ (by decide) (by unfold maxLen; omega) (by omega) hB _ rfl ?_
  · intro u' hu'
    rw [List.mem_singleton] at hu'
    rw [hu']
    rfl
  · intro g cap w' h' hg' hor hlt
    exact K g cap w' (by unfold OwnS; rw [List.map_append, List.length_append]; exact h') hg' hor hlt
/-- 'append(s, x)' of one state. -/
theorem app_st (w : World) {ops : Array Oper} {rest : List Oper} {o : Oper} {a : Act} {Q : Exit → Act → World → Prop} (hg : o.guard = none) (s x : Operand)
    (hop : o.op = Op.call { callee := Callee.builtin Builtin.append, args := #[s, x], argTypes := #[51, 51] }) (B : Nat) (v : Value) (xs : List St) (hs : a.eval s = v) (hown : OwnT w B v xs)
    (b c : Nat) (y : St) (hx : a.eval x = .slice (some ⟨b, 0, none⟩) 1 c)
    (hc : StAt w b y) (hb : xs.length ≤ 1048576) (hB : B ≤ w.heap.size)
    (K : ∀ g cap w', OwnT w' B (.slice (some ⟨g, 0, none⟩) (xs.length + 1) cap) (xs ++ [y]) → w.grownBy w' v.ownBlock → (v.ownBlock = some g ∨ g = w.heap.size) → g < w'.heap.size → wpList Tryd.prog ops Q rest (a.put o.dst (.slice (some ⟨g, 0, none⟩) (xs.length + 1) cap)) w') : wpList Tryd.prog ops Q (o :: rest) a w := by
  obtain ⟨i, h1, h2, h3, h4⟩ := info_st
  refine wpList_append_lies w hg s x 51 hop B 24 i _ 7 56 Tryd.underlying51 h1 h2 h3 h4 rfl (by decide) v _ _ hs hown ⟨b, 0, none⟩ 1 c (stCells y) hx rfl (World.news_of_block hc) (stCells_one y) (by decide) (by unfold maxLen; omega) (by omega) hB _ rfl ?_
  intro g cap w' h' hg' hor hlt
  exact K g cap w' (by unfold OwnT xsCells at *; rw [List.flatMap_append, List.flatMap_cons, List.flatMap_nil, List.append_nil, List.length_append]; exact h') hg' hor hlt
/-- The same, at a step of a region that draws its order. -/
theorem step_str (w : World) {ops : Array Oper} {o : Oper} {a : Act} {L : Act → World → Prop} {Q : Exit → Act → World → Prop} {E : Prop} (hg : o.guard = none) (s x : Operand)
    (hop : o.op = Op.call { callee := Callee.builtin Builtin.append, args := #[s, x], argTypes := #[50, 50] }) (B : Nat) (v : Value) (ts : List ByteArray) (hs : a.eval s = v) (hown : OwnS w B v ts)
    (b c : Nat) (u : ByteArray) (hx : a.eval x = .slice (some ⟨b, 0, none⟩) 1 c)
    (hc : w.heap[b]? = some (.cells #[.string u] 9)) (hb : ts.length ≤ 1048576) (hB : B ≤ w.heap.size)
    (K : ∀ g cap w', OwnS w' B (.slice (some ⟨g, 0, none⟩) (ts.length + 1) cap) (ts ++ [u]) → w.grownBy w' v.ownBlock → (v.ownBlock = some g ∨ g = w.heap.size) → g < w'.heap.size → L (a.put o.dst (.slice (some ⟨g, 0, none⟩) (ts.length + 1) cap)) w') :
    if Region.wanted o (yielded ops a.tmps) = true then Oper.wp Tryd.prog o a w L Q else E := by
  obtain ⟨i, h1, h2, h3, h4⟩ := info_str
  refine step_append_lies w hg s x 50 hop B 9 i (.string ⟨#[]⟩) 1 16 Tryd.underlying50 h1 h2 h3 h4 rfl (by decide) v _ _ hs hown ⟨b, 0, none⟩ 1 c [.string u] hx rfl (World.news_of_block hc) ?_ (by decide) (by unfold maxLen; omega) (by omega) hB _ rfl ?_
  · intro u' hu'
    rw [List.mem_singleton] at hu'
    rw [hu']
    rfl
  · intro g cap w' h' hg' hor hlt
    exact K g cap w' (by unfold OwnS; rw [List.map_append, List.length_append]; exact h') hg' hor hlt
theorem step_st (w : World) {ops : Array Oper} {o : Oper} {a : Act} {L : Act → World → Prop} {Q : Exit → Act → World → Prop} {E : Prop} (hg : o.guard = none) (s x : Operand)
    (hop : o.op = Op.call { callee := Callee.builtin Builtin.append, args := #[s, x], argTypes := #[51, 51] }) (B : Nat) (v : Value) (xs : List St) (hs : a.eval s = v) (hown : OwnT w B v xs)
    (b c : Nat) (y : St) (hx : a.eval x = .slice (some ⟨b, 0, none⟩) 1 c)
    (hc : StAt w b y) (hb : xs.length ≤ 1048576) (hB : B ≤ w.heap.size)
    (K : ∀ g cap w', OwnT w' B (.slice (some ⟨g, 0, none⟩) (xs.length + 1) cap) (xs ++ [y]) → w.grownBy w' v.ownBlock → (v.ownBlock = some g ∨ g = w.heap.size) → g < w'.heap.size → L (a.put o.dst (.slice (some ⟨g, 0, none⟩) (xs.length + 1) cap)) w') :
    if Region.wanted o (yielded ops a.tmps) = true then Oper.wp Tryd.prog o a w L Q else E := by
  obtain ⟨i, h1, h2, h3, h4⟩ := info_st
  refine step_append_lies w hg s x 51 hop B 24 i _ 7 56 Tryd.underlying51 h1 h2 h3 h4 rfl (by decide) v _ _ hs hown ⟨b, 0, none⟩ 1 c (stCells y) hx rfl (World.news_of_block hc) (stCells_one y) (by decide) (by unfold maxLen; omega) (by omega) hB _ rfl ?_
  intro g cap w' h' hg' hor hlt
  exact K g cap w' (by unfold OwnT xsCells at *; rw [List.flatMap_append, List.flatMap_cons, List.flatMap_nil, List.append_nil, List.length_append]; exact h') hg' hor hlt

end Go.Proofs.YtibadnfagoehmaaDoor

/- Lists of lists in memory of the call's own, and the laws' helpers over them (any length up to 2^20). -/
import Derived.Test.YtdckjhobikfggaaMarks
import Derived.Laws.ResultCell
import Derived.Laws.Rows
import Derived.Deep.QuietTactic
import Derived.BigQuiet
import Derived.Deep.RegionLaw
import Derived.Deep.AppendLies
namespace Go.Proofs.Ytdckjhobikfggaa
open Go.RowKit

/-- A slice of slices in memory of the call's own. -/
def OwnV (w : World) (B : Nat) (v : Value) (vs : List Value) : Prop := w.ownsRow B 22 1 v vs.length vs
theorem info_list : ∃ i, Try.prog.info? 22 = some i ∧ i.zero = some (.slice none 0 0) ∧ i.size = 1 ∧ i.bytes = 24 := info_parts (by kernel_rfl)
theorem OwnV.nil (w : World) (B : Nat) : OwnV w B (.slice none 0 0) [] := World.ownsRow_nil w B _ 1
theorem OwnV.all {w w' : World} {B : Nat} {v : Value} {vs : List Value} (h : OwnV w B v vs) (hb : Below w.heap.size w w') : OwnV w' B v vs := by
  refine ⟨h.1, ?_⟩
  rcases h.2 with h | ⟨g, cap, cur, x1, x2, x3, x4⟩
  · exact .inl h
  · exact .inr ⟨g, cap, cur, x1, x2, (hb.block g (Array.getElem?_eq_some_iff.1 x3).1).trans x3, x4⟩
theorem OwnV.put {w : World} {B b off : Nat} {v u : Value} {vs : List Value} (h : OwnV w B v vs) (hb : b < B) : OwnV (w.setCell ⟨b, off, none⟩ u) B v vs := by
  refine ⟨h.1, ?_⟩
  rcases h.2 with h | ⟨g, cap, cur, x1, x2, x3, x4⟩
  · exact .inl h
  · exact .inr ⟨g, cap, cur, x1, x2, by rw [Below.heap_setCell _ _ _ _ (by simp; omega)]; exact x3, x4⟩
theorem OwnV.form {w : World} {B : Nat} {v : Value} {vs : List Value} (h : OwnV w B v vs) : ∃ a c, v = .slice a vs.length c := by
  rcases h.2 with ⟨h1, h2⟩ | ⟨g, cap, cur, x1, _⟩
  · exact ⟨none, 0, by rw [h1, h2]⟩
  · exact ⟨_, _, x1⟩

theorem OwnV.low {w : World} {B B' : Nat} {v : Value} {vs : List Value} (h : OwnV w B v vs) (hB : B' ≤ B) : OwnV w B' v vs := by
  refine ⟨h.1, ?_⟩
  rcases h.2 with h | ⟨g, cap, cur, x1, x2, x3⟩
  · exact .inl h
  · exact .inr ⟨g, cap, cur, x1, Nat.le_trans hB x2, x3⟩
theorem OwnV.empty (w : World) (B : Nat) (hB : B ≤ w.heap.size) : OwnV (w.alloc (.cells #[] 22)) B (.slice (some ⟨w.heap.size, 0, none⟩) 0 0) [] :=
  World.ownsRow_lit (base := B) (e := 22) (size := 1) w #[] 0 hB (by decide) (by decide)
theorem Own.empty (w : World) (B : Nat) (hB : B ≤ w.heap.size) : Own .i64 3 (w.alloc (.cells #[] 3)) B (.slice (some ⟨w.heap.size, 0, none⟩) 0 0) [] := Own.lit .i64 3 w B [] hB (by decide)

theorem OwnV.cell {w : World} {B g n cap : Nat} {vs : List Value} (h : OwnV w B (.slice (some ⟨g, 0, none⟩) n cap) vs) (j : Nat) (hj : j < vs.length) : w.cell? ⟨g, j, none⟩ = some vs[j] := by
  obtain ⟨a, c, hv⟩ := h.form
  injection hv with _ h2
  subst h2
  have := World.ownsRow.cellAt h j (by omega)
  rw [this, List.getElem?_eq_getElem hj]

theorem OwnV.at {w : World} {B g n cap : Nat} {f : Nat → Value} (h : OwnV w B (.slice (some ⟨g, 0, none⟩) n cap) ((List.range n).map f)) (j : Nat) (hj : j < n) : w.cell? ⟨g, j, none⟩ = some (f j) := by
  rw [h.cell j (by simp; exact hj)]
  simp
theorem OwnV.addr {w : World} {B n cap : Nat} {a : Option Addr} {f : Nat → Value} (h : OwnV w B (.slice a n cap) ((List.range n).map f)) (hn : n ≠ 0) : ∃ g, a = some ⟨g, 0, none⟩ := by
  rcases h.2 with ⟨_, hh⟩ | ⟨g, cap, cur, x1, _⟩
  · simp at hh; exact absurd hh hn
  · injection x1 with h; exact ⟨g, h⟩
theorem Ints.shap {k : IntKind} {w : World} {v : Value} {zs : List Int} (h : Ints k w v zs) : ∃ s l c, v = .slice s l c := by
  rcases h with ⟨_, a, c, rfl⟩ | ⟨b, off, c, rfl, _⟩
  · exact ⟨_, _, _, rfl⟩
  · exact ⟨_, _, _, rfl⟩

set_option maxHeartbeats 1000000 in
theorem laws_eqIntSS (a a' : Option Addr) (c c' n : Nat) (f f' : Nat → Value) (z : Nat → List Int) (B B' : Nat) (w : World) (hv : OwnV w B (.slice a n c) ((List.range n).map f)) (hu : OwnV w B' (.slice a' n c') ((List.range n).map f'))
    (h1 : ∀ k, k < n → Ints .i64 w (f k) (z k)) (h2 : ∀ k, k < n → Ints .i64 w (f' k) (z k)) (hz : ∀ k, (z k).length ≤ 1048576) (hn4 : n ≤ 1048576) : Calls Try.prog 13 #[.slice a n c, .slice a' n c'] w fun e w' => e = .returned (.bool true) ∧ ∃ n, w' = w.drewN n := by
  have e0 : ((n : Int) != (n : Int)) = false := by simp
  by_cases h0 : n = 0
  · subst h0
    clear hv hu h1 h2
    go_enter Try.func13, Try.ntmps13
    go_wp2
    go_loop [5] (fun i => i = .int .i64 0) (fun _ => 0)
    case atStart => rfl
    case round =>
      subst hrel
      go_wp2
      go_ret
      exact ⟨rfl, 0, rfl⟩
  · obtain ⟨g, rfl⟩ := hv.addr h0
    obtain ⟨g', rfl⟩ := hu.addr h0
    have HV := Lib.hid hv
    have HU := Lib.hid hu
    have HF := Lib.hid (fun (k : Nat) (h : k < n) => And.intro (h1 k h).shap (h2 k h).shap)
    have HQ : Hid (∀ k, k < n → ∀ q, Calls Try.prog 14 #[f k, f' k] (w.drewN q) fun e w' => e = .returned (.bool true) ∧ ∃ m, w' = (w.drewN q).drewN m) := Lib.hid (fun k h q => (laws_eqIntS (f k) (f' k) (z k) (z k) (w.drewN q) (h1 k h) (h2 k h) (by have := hz k; omega) (by have := hz k; omega)).mono (fun e w' hh => ⟨hh.1.trans (by rw [decide_eq_true rfl]), hh.2⟩))
    clear hv hu h1 h2 hz
    go_enter Try.func13, Try.ntmps13
    go_wp2
    go_loopw [5] (fun i wr => ∃ k q : Nat, k ≤ n ∧ i = .int .i64 k ∧ wr = w.drewN q) (fun i _ => n - (intOf i).toNat)
    case atStart => exact ⟨0, 0, Nat.zero_le _, rfl, rfl⟩
    case round =>
      obtain ⟨k, q, hk, rfl, rfl⟩ := hrel
      by_cases hlt : k < n
      · have c1 : w.cell? ⟨g, k, none⟩ = some (f k) := HV.out.at k hlt
        have c2 : w.cell? ⟨g', k, none⟩ = some (f' k) := HU.out.at k hlt
        have v1 : (0 : Int) ≤ (k : Int) := by omega
        have v2 : (k : Int) < (n : Int) := by omega
        have hq := HQ.out k hlt
        obtain ⟨⟨s1, l1, k1, e1⟩, ⟨s2, l2, k2, e2⟩⟩ := HF.out k hlt
        rw [e1] at c1 hq
        rw [e2] at c2 hq
        clear e1 e2
        have hq2 : ∀ m, Calls Try.prog 14 #[.slice s1 l1 k1, .slice s2 l2 k2] ((w.drewN q).drewN m) fun e w' => e = .returned (.bool true) ∧ ∃ m', w' = ((w.drewN q).drewN m).drewN m' := fun m => by rw [World.drewN_drewN]; exact hq _
        have d1 : (w.drewN q).cell? ⟨g, k, none⟩ = some (.slice s1 l1 k1) := c1
        have d2 : (w.drewN q).cell? ⟨g', k, none⟩ = some (.slice s2 l2 k2) := c2
        clear hq c1 c2
        obtain ⟨W, hW⟩ : ∃ W, w.drewN q = W := ⟨_, rfl⟩
        rw [hW] at hq2 d1 d2 ⊢
        have HW := Lib.hid hW
        have HQk := Lib.hid hq2
        clear hW hq2
        go_wp2_with fail
        go_quiet ((go_at_call 14; exact Calls.quiet_of (HQk.out _)))
        go_wp2
        go_roundw
        case rel => exact ⟨k + 1, _, by omega, by go_num, by rw [← HW.out, World.drewN_drewN]⟩
        case measure => simp [intOf]; omega
      · go_wp2
        go_ret
        exact ⟨rfl, _, rfl⟩

set_option maxHeartbeats 400000 in
/-- Marking a list: its own block alone changes. -/
theorem laws_markIntS2 (v : Value) (zs : List Int) (k : Int) (B : Nat) (w : World) (h : Own .i64 3 w B v zs) (hl : zs.length ≤ 1048576) (hk : 0 ≤ k) (hk2 : k ≤ 1099511627776) : Calls Try.prog 15 #[v, .int .i64 k] w fun e w' => e = .returned (.int .i64 (k + zs.length)) ∧ Own .i64 3 w' B v (marks k zs.length) ∧ Below B w w' ∧ ∀ i, v.ownBlock ≠ some i → i < w.heap.size → w'.heap[i]? = w.heap[i]? := by
  obtain ⟨a, c, rfl, h1, h2, h3, h4⟩ := h.shape
  cases a with
  | none =>
    obtain ⟨rfl, rfl⟩ := h3 rfl
    clear h3 h4
    go_enter Try.func15, Try.ntmps15
    go_wp2
    go_loop [1, 5] (fun q i => q = .int .i64 k ∧ i = .int .i64 0) (fun _ _ => 0)
    case atStart => exact ⟨rfl, rfl⟩
    case round =>
      obtain ⟨rfl, rfl⟩ := hrel
      go_wp2
      go_ret
      exact ⟨ret_int (by simp), by simpa [marks] using h, Below.refl _ _, fun _ _ _ => rfl⟩
  | some x =>
    obtain ⟨g, off, spot⟩ := x
    obtain ⟨rfl, rfl, hB⟩ := h4 _ rfl
    clear h3 h4
    generalize hn : zs.length = n at *
    have HN := Lib.hid hn
    clear hn
    go_enter Try.func15, Try.ntmps15
    go_wp2
    go_loopw [1, 5] (fun q i wr => ∃ j : Nat, j ≤ n ∧ q = .int .i64 (k + j) ∧ i = .int .i64 j ∧ Own .i64 3 wr B (.slice (some ⟨g, 0, none⟩) n c) (markTo zs k j) ∧ Below B w wr ∧ Hid (∀ i, i ≠ g → i < w.heap.size → wr.heap[i]? = w.heap[i]?)) (fun _ i _ => n - (intOf i).toNat)
    case atStart => exact ⟨0, Nat.zero_le _, by simp, rfl, by rw [markTo_zero]; exact h, Below.refl _ _, Lib.hid (fun _ _ _ => rfl)⟩
    case round =>
      clear h
      obtain ⟨j, hj, rfl, rfl, ho, hb, HO⟩ := hrel
      by_cases hlt : j < n
      · have hf := ho.frozen j
        have hold := ho.cell j (by rw [markTo_length _ _ _ (by have := HN.out; omega), HN.out]; exact hlt)
        have ho2 := ho.store j (k + j)
        rw [markTo_succ zs k j (by have := HN.out; omega)] at ho2
        have hb2 : Below B w (wr.setCell ⟨g, j, none⟩ (.int .i64 (k + j))) := hb.setCell hB _
        have HO2 : Hid (∀ i, i ≠ g → i < w.heap.size → (wr.setCell ⟨g, j, none⟩ (.int .i64 (k + j))).heap[i]? = w.heap[i]?) := Lib.hid (fun i hi hl => by rw [Below.heap_setCell _ _ _ _ (by simpa using hi)]; exact HO.out i hi hl)
        have e1 : (0 : Int) ≤ (j : Int) := by omega
        have e2 : (j : Int) < (n : Int) := by omega
        clear ho
        go_wp2
        go_roundw
        case rel => exact ⟨j + 1, by omega, by go_num, by go_num, ho2, hb2, HO2⟩
        case measure => simp [intOf]; omega
      · have hjn : j = n := by omega
        subst hjn
        go_wp2
        go_ret
        have := HN.out
        refine ⟨rfl, ?_, hb, fun i hi hl => HO.out i (fun he => hi (by rw [he]; rfl)) hl⟩
        rw [← HN.out, markTo_full, HN.out] at ho
        exact ho

/-- How many numbers stand ahead of list k. -/
def offs (z : Nat → List Int) : Nat → Nat
  | 0 => 0
  | k + 1 => offs z k + (z k).length
/-- Lists each in a block of its own, apart from the row that holds them. -/
def Apart (n : Nat) (v : Value) (f : Nat → Value) : Prop := (∀ j k : Nat, j < n → k < n → j ≠ k → ∀ b, (f j).ownBlock = some b → (f k).ownBlock ≠ some b) ∧ (∀ k : Nat, k < n → ∀ b, (f k).ownBlock = some b → v.ownBlock ≠ some b)
theorem OwnV.stay {w w' : World} {B : Nat} {v : Value} {vs : List Value} (h : OwnV w B v vs) (hk : ∀ i, v.ownBlock = some i → i < w.heap.size → w'.heap[i]? = w.heap[i]?) : OwnV w' B v vs := by
  refine ⟨h.1, ?_⟩
  rcases h.2 with h | ⟨g, cap, cur, x1, x2, x3, x4⟩
  · exact .inl h
  · exact .inr ⟨g, cap, cur, x1, x2, (hk g (by rw [x1]; rfl) (Array.getElem?_eq_some_iff.1 x3).1).trans x3, x4⟩
theorem Own.stay {w w' : World} {B : Nat} {v : Value} {zs : List Int} (h : Own .i64 3 w B v zs) (hk : ∀ i, v.ownBlock = some i → i < w.heap.size → w'.heap[i]? = w.heap[i]?) : Own .i64 3 w' B v zs := by
  refine ⟨h.1, ?_⟩
  rcases h.2 with h | ⟨g, cap, cur, x1, x2, x3, x4⟩
  · exact .inl h
  · exact .inr ⟨g, cap, cur, x1, x2, (hk g (by rw [x1]; rfl) (Array.getElem?_eq_some_iff.1 x3).1).trans x3, x4⟩

set_option maxHeartbeats 1000000 in
theorem laws_markIntSS (a : Option Addr) (c n : Nat) (f : Nat → Value) (z : Nat → List Int) (B : Nat) (w : World) (hv : OwnV w B (.slice a n c) ((List.range n).map f)) (h1 : ∀ k, k < n → Own .i64 3 w B (f k) (z k)) (hap : Apart n (.slice a n c) f) (hz : ∀ k, (z k).length ≤ 1048576) (hof : ∀ k, k ≤ n → offs z k ≤ 1048576) (hn4 : n ≤ 1048576) (_hBw : B ≤ w.heap.size) :
    Calls Try.prog 16 #[.slice a n c, .int .i64 1] w fun e w' => e = .returned (.int .i64 (1 + (offs z n : Int))) ∧ OwnV w' B (.slice a n c) ((List.range n).map f) ∧ (∀ k, k < n → Own .i64 3 w' B (f k) (marks (1 + (offs z k : Int)) (z k).length)) ∧ Below B w w' ∧ ∀ i, (∀ k, k < n → (f k).ownBlock ≠ some i) → i < w.heap.size → w'.heap[i]? = w.heap[i]? := by
  by_cases h0 : n = 0
  · subst h0
    have HV := Lib.hid hv
    clear hv h1
    go_enter Try.func16, Try.ntmps16
    go_wp2
    go_loop [1, 5] (fun q i => q = .int .i64 1 ∧ i = .int .i64 0) (fun _ _ => 0)
    case atStart => exact ⟨rfl, rfl⟩
    case round =>
      obtain ⟨rfl, rfl⟩ := hrel
      go_wp2
      go_ret
      exact ⟨rfl, HV.out, Below.refl _ _, fun _ _ => rfl⟩
  · obtain ⟨g, rfl⟩ := hv.addr h0
    have HV := Lib.hid hv
    have H1 := Lib.hid h1
    have HAp := Lib.hid hap
    have HZ := Lib.hid hz
    have HOF := Lib.hid hof
    clear hv h1 hap hz hof
    go_enter Try.func16, Try.ntmps16
    go_wp2
    go_loopw [1, 5] (fun q i wr => ∃ j : Nat, j ≤ n ∧ q = .int .i64 (1 + (offs z j : Int)) ∧ i = .int .i64 j ∧ Hid (OwnV wr B (.slice (some ⟨g, 0, none⟩) n c) ((List.range n).map f) ∧ (∀ k, k < n → Own .i64 3 wr B (f k) (if k < j then marks (1 + (offs z k : Int)) (z k).length else z k)) ∧ Below B w wr ∧ ∀ i, (∀ k, k < n → (f k).ownBlock ≠ some i) → i < w.heap.size → wr.heap[i]? = w.heap[i]?)) (fun _ i _ => n - (intOf i).toNat)
    case atStart => exact ⟨0, Nat.zero_le _, rfl, rfl, Lib.hid ⟨HV.out, fun k hk => by rw [if_neg (Nat.not_lt_zero _)]; exact H1.out k hk, Below.refl _ _, fun _ _ _ => rfl⟩⟩
    case round =>
      obtain ⟨j, hj, rfl, rfl, HR⟩ := hrel
      by_cases hlt : j < n
      · obtain ⟨r1, r2, r3, r4⟩ := HR.out
        have c1 := r1.at j hlt
        have hoj := r2 j hlt
        rw [if_neg (Nat.lt_irrefl j)] at hoj
        have hoff := HOF.out j (by omega)
        have hzj0 := HZ.out j
        have hM := Lib.hid (laws_markIntS2 (f j) (z j) (1 + (offs z j : Int)) B wr hoj (by have := HZ.out j; omega) (by omega) (by omega))
        have v1 : (0 : Int) ≤ (j : Int) := by omega
        have v2 : (j : Int) < (n : Int) := by omega
        clear r1 r2 r3 r4 hoj
        go_wp2_with fail
        refine hM.out.mono ?_
        rintro e w2 ⟨rfl, o2, b2, hk2⟩
        have HR2 : Hid (OwnV w2 B (.slice (some ⟨g, 0, none⟩) n c) ((List.range n).map f) ∧ (∀ k, k < n → Own .i64 3 w2 B (f k) (if k < j + 1 then marks (1 + (offs z k : Int)) (z k).length else z k)) ∧ Below B w w2 ∧ ∀ i, (∀ k, k < n → (f k).ownBlock ≠ some i) → i < w.heap.size → w2.heap[i]? = w.heap[i]?) := Lib.hid (by
          obtain ⟨r1, r2, r3, r4⟩ := HR.out
          refine ⟨r1.stay (fun i hi hl => hk2 i (fun he => HAp.out.2 j hlt i he hi) hl), fun k hk => ?_, r3.trans b2, fun i hi hl => (hk2 i (hi j hlt) (Nat.lt_of_lt_of_le hl r3.size)).trans (r4 i hi hl)⟩
          by_cases hkj : k = j
          · subst hkj
            rw [if_pos (Nat.lt_succ_self _)]
            exact o2
          · have := (r2 k hk).stay (w' := w2) (fun i hi hl => hk2 i (fun he => HAp.out.1 j k hlt hk (fun h => hkj h.symm) i he hi) hl)
            by_cases hlt2 : k < j
            · rw [if_pos hlt2] at this
              rw [if_pos (by omega)]
              exact this
            · rw [if_neg hlt2] at this
              rw [if_neg (by omega)]
              exact this)
        clear o2 b2 hk2 c1 hM
        go_wp2
        go_roundw
        case rel => exact ⟨j + 1, by omega, by rw [show offs z (j + 1) = offs z j + (z j).length from rfl]; go_num, by go_num, HR2⟩
        case measure => simp [intOf]; omega
      · have hjn : j = n := by omega
        subst hjn
        go_wp2
        go_ret
        exact ⟨rfl, HR.out.1, fun k hk => by have := HR.out.2.1 k hk; rw [if_pos hk] at this; exact this, HR.out.2.2⟩

set_option maxHeartbeats 1000000 in
theorem laws_heldIntSS (a : Option Addr) (c n : Nat) (f : Nat → Value) (z : Nat → List Int) (B : Nat) (w : World) (hv : OwnV w B (.slice a n c) ((List.range n).map f)) (h1 : ∀ k, k < n → Ints .i64 w (f k) (marks (1 + (offs z k : Int)) (z k).length)) (hz : ∀ k, (z k).length ≤ 1048576) (hof : ∀ k, k ≤ n → offs z k ≤ 1048576) (hn4 : n ≤ 1048576) :
    Calls Try.prog 17 #[.slice a n c, .int .i64 1] w fun e w' => e = .returned (.int .i64 (1 + (offs z n : Int))) ∧ w = w' := by
  by_cases h0 : n = 0
  · subst h0
    clear hv h1
    go_enter Try.func17, Try.ntmps17
    go_wp2
    go_loop [1, 5] (fun q i => q = .int .i64 1 ∧ i = .int .i64 0) (fun _ _ => 0)
    case atStart => exact ⟨rfl, rfl⟩
    case round =>
      obtain ⟨rfl, rfl⟩ := hrel
      go_wp2
      go_ret
      exact ⟨rfl, rfl⟩
  · obtain ⟨g, rfl⟩ := hv.addr h0
    have HV := Lib.hid hv
    have HZ := Lib.hid hz
    have HOF := Lib.hid hof
    have HH := Lib.hid (fun (j : Nat) (h : j < n) => laws_heldIntS (f j) (1 + (offs z j : Int)) (z j).length w (h1 j h) (by have := hz j; omega) (by omega) (by have := hof j (by omega); omega))
    clear hv h1 hz hof
    go_enter Try.func17, Try.ntmps17
    go_wp2
    go_loop [1, 5] (fun q i => ∃ j : Nat, j ≤ n ∧ q = .int .i64 (1 + (offs z j : Int)) ∧ i = .int .i64 j) (fun _ i => n - (intOf i).toNat)
    case atStart => exact ⟨0, Nat.zero_le _, rfl, rfl⟩
    case round =>
      obtain ⟨j, hj, rfl, rfl⟩ := hrel
      by_cases hlt : j < n
      · have c1 := HV.out.at j hlt
        have hoff := HOF.out j (by omega)
        have hzj0 := HZ.out j
        have hM := Lib.hid (HH.out j hlt)
        have hzj := HZ.out j
        have v1 : (0 : Int) ≤ (j : Int) := by omega
        have v2 : (j : Int) < (n : Int) := by omega
        have v3 : (0 : Int) ≤ 1 + (offs z j : Int) + ((z j).length : Int) := by omega
        go_wp2_with fail
        refine hM.out.mono ?_
        rintro e w2 ⟨rfl, rfl⟩
        clear c1 hM
        go_wp2
        go_round
        case rel => exact ⟨j + 1, by omega, by rw [show offs z (j + 1) = offs z j + (z j).length from rfl]; go_num, by go_num⟩
        case measure => simp [intOf]; omega
      · have hjn : j = n := by omega
        subst hjn
        go_wp2
        go_ret
        exact ⟨rfl, rfl⟩

end Go.Proofs.Ytdckjhobikfggaa

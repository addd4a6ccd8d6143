/- The registry: FindSet, SizeOf, SetsFor, SetOf of the specification. -/
import Derived.Test.YtlakpddabkmpoaaDoorSetsE
import Derived.Laws.ResultCell
namespace Go.Proofs.YtlakpddabkmpoaaDoor
open Go.RowKit

def fsC (kind final : Int) : Int := if inB kind 1 3 = true then (if findNo kind final = 0 then 5 else 0) else 9
def fsR (kind final : Int) : Int := if fsC kind final = 0 then findNo kind final else 0
def fsV (kind final : Int) : Value := .tuple #[.int .i64 (fsR kind final), .int .i64 (fsC kind final)]
theorem fsV_bad (a b c : Int) (h : fsC a b = c) (h0 : c ≠ 0) : fsV a b = .tuple #[.int .i64 0, .int .i64 c] := by simp [fsV, fsR, h, h0]
theorem fsV_ok (a b : Int) (h : fsC a b = 0) : fsV a b = .tuple #[.int .i64 (findNo a b), .int .i64 0] := by simp [fsV, fsR, h]

set_option maxHeartbeats 1000000 in
theorem spec_l02Find (kind final : Int) (w : World) : Calls Tryd.prog 56 #[.int .i64 kind, .int .i64 final] w fun e w' => e = .returned (.int .i64 (findNo kind final)) ∧ Below w.heap.size w w' := by
  go_enter Tryd.func56, Tryd.ntmps56
  go_wp2
  go_loopw [5] (fun i wr => ∃ k f : Nat, k + f = 9 ∧ 1 ≤ k ∧ i = .int .i64 k ∧ Hid (findNo kind final = firstNo (fun k => decide (setKind k = kind) && decide (setFinal k = final)) f (k : Int)) ∧ Below w.heap.size w wr) (fun i _ => 9 - (intOf i).toNat)
  case atStart => exact ⟨1, 8, rfl, by omega, rfl, Lib.hid rfl, Below.refl _ _⟩
  case round =>
    obtain ⟨k, f, hk, hk1, rfl, HR, b⟩ := hrel
    by_cases hlt : k ≤ 8
    · obtain ⟨f, rfl⟩ : ∃ f', f = f' + 1 := ⟨f - 1, by omega⟩
      go_wp2_with fail
      refine (spec_l02Set (k : Int) wr).mono ?_
      rintro e w1 ⟨g, rfl, hg, hblk, b1⟩
      clear hblk
      unfold setV
      have F1 := setField1
      have F2 := setField2
      have B1 : Below w.heap.size w w1 := b.trans (b1.mono b.size)
      have HU := Lib.hid (show firstNo (fun k => decide (setKind k = kind) && decide (setFinal k = final)) (f + 1) (k : Int) = if (decide (setKind (k : Int) = kind) && decide (setFinal (k : Int) = final)) = true then (k : Int) else firstNo (fun k => decide (setKind k = kind) && decide (setFinal k = final)) f ((k : Int) + 1) from rfl)
      generalize hK : setKind (k : Int) = a at *
      generalize hF : setFinal (k : Int) = c at *
      by_cases h1 : a = kind
      · by_cases h2 : c = final
        · have HE : Hid (findNo kind final = (k : Int)) := Lib.hid (by rw [HR.out, HU.out]; simp [h1, h2])
          have z1 : (a == kind) = true := by simpa using h1
          have z2 : (c == final) = true := by simpa using h2
          clear h1 h2
          go_wp2
          go_ret
          exact ⟨ret_int HE.out.symm, B1.alloc (by have := B1.size; omega) _⟩
        · have HX : Hid (findNo kind final = firstNo (fun k => decide (setKind k = kind) && decide (setFinal k = final)) f ((k + 1 : Nat) : Int)) := Lib.hid (by rw [HR.out, HU.out]; simp [h2])
          have z1 : (a == kind) = true := by simpa using h1
          have z2 : (c == final) = false := by simpa using h2
          clear h1 h2
          go_wp2
          go_roundw
          case rel => exact ⟨k + 1, f, by omega, by omega, by go_num, HX, B1.alloc (by have := B1.size; omega) _⟩
          case measure => simp [intOf]; omega
      · have HX : Hid (findNo kind final = firstNo (fun k => decide (setKind k = kind) && decide (setFinal k = final)) f ((k + 1 : Nat) : Int)) := Lib.hid (by rw [HR.out, HU.out]; simp [h1])
        have z1 : (a == kind) = false := by simpa using h1
        clear h1
        go_wp2
        go_roundw
        case rel => exact ⟨k + 1, f, by omega, by omega, by go_num, HX, B1.alloc (by have := B1.size; omega) _⟩
        case measure => simp [intOf]; omega
    · have hf : f = 0 := by omega
      subst hf
      have HE : Hid (findNo kind final = 0) := Lib.hid (by rw [HR.out]; rfl)
      go_wp2
      go_ret
      exact ⟨ret_int HE.out.symm, b⟩

set_option maxHeartbeats 1000000 in
theorem spec_FindSet (kind final : Int) (w : World) : Calls Tryd.prog 30 #[.int .i64 kind, .int .i64 final] w fun e w' => e = .returned (fsV kind final) ∧ Below w.heap.size w w' := by
  cases hk : inB kind 1 3
  · have HE := Lib.hid (fsV_bad kind final 9 (by simp [fsC, hk]) (by decide))
    go_enter Tryd.func30, Tryd.ntmps30
    go_wp2_with fail
    refine (spec_l01In kind 1 3 w).mono ?_
    rintro e w1 ⟨rfl, rfl⟩
    rw [hk]
    go_wp2
    go_ret2
    exact ⟨ret_val HE.out.symm, Below.refl _ _⟩
  · go_enter Tryd.func30, Tryd.ntmps30
    go_wp2_with fail
    refine (spec_l01In kind 1 3 w).mono ?_
    rintro e w1 ⟨rfl, rfl⟩
    rw [hk]
    go_wp2_with fail
    refine (spec_l02Find kind final w).mono ?_
    rintro e w2 ⟨rfl, b2⟩
    by_cases hr : findNo kind final = 0
    · have HE := Lib.hid (fsV_bad kind final 5 (by simp [fsC, hk, hr]) (by decide))
      rw [hr]
      go_wp2
      go_ret2
      exact ⟨ret_val HE.out.symm, b2⟩
    · have HE := Lib.hid (fsV_ok kind final (by simp [fsC, hk, hr]))
      have hz : (findNo kind final == 0) = false := by simpa using hr
      go_wp2
      go_ret2
      exact ⟨ret_val HE.out.symm, b2⟩

def soC (n : Int) : Int := if setB n = true then 0 else 5
def soZ (n : Int) : Int := if setB n = true then sizeS (setSpans n) else 0
def soV (n : Int) : Value := .tuple #[.int .i64 (soZ n), .int .i64 (soC n)]
theorem sizeS_take (sp : List Sp) (k : Nat) (h : k < sp.length) : sizeS (sp.take (k + 1)) = sizeS (sp.take k) + (sp[k]).2.2 := by
  rw [List.take_succ_eq_append_getElem h]
  simp only [sizeS, List.map_append, List.sum_append, List.map_cons, List.map_nil, List.sum_cons, List.sum_nil]
  omega
theorem sizeS_small (sp : List Sp) (h : ∀ s ∈ sp, smallSp s) : 0 ≤ sizeS sp ∧ sizeS sp ≤ 2000000 * sp.length := by
  induction sp with
  | nil => simp [sizeS]
  | cons s t ih =>
    have ⟨h1, h2⟩ := ih (fun x hx => h x (List.mem_cons_of_mem _ hx))
    have ⟨_, _, h3, h4⟩ := h s (by simp)
    simp only [sizeS, List.map_cons, List.sum_cons, List.length_cons] at *
    omega

set_option maxHeartbeats 1000000 in
set_option maxRecDepth 100000 in
theorem spec_SizeOf (n : Int) (w : World) : Calls Tryd.prog 19 #[.int .i64 n] w fun e w' => e = .returned (soV n) ∧ Below w.heap.size w w' := by
  cases hn : setB n
  · have HE : Hid (soV n = .tuple #[.int .i64 0, .int .i64 5]) := Lib.hid (by simp [soV, soZ, soC, hn])
    go_enter Tryd.func19, Tryd.ntmps19
    go_wp2_with fail
    refine (spec_l01In n 1 8 w).mono ?_
    rintro e w1 ⟨rfl, rfl⟩
    rw [show inB n 1 8 = false from hn]
    go_wp2
    go_ret2
    exact ⟨ret_val HE.out.symm, Below.refl _ _⟩
  · have HE : Hid (soV n = .tuple #[.int .i64 (sizeS (setSpans n)), .int .i64 0]) := Lib.hid (by simp [soV, soZ, soC, hn])
    go_enter Tryd.func19, Tryd.ntmps19
    go_wp2_with fail
    refine (spec_l01In n 1 8 w).mono ?_
    rintro e w1 ⟨rfl, rfl⟩
    rw [show inB n 1 8 = true from hn]
    go_wp2_with fail
    refine (spec_l02Set n w).mono ?_
    rintro e w1 ⟨g, rfl, hg, hblk, b1⟩
    have HC := Lib.hid (SetDone.cells hblk)
    have ⟨f1, f2⟩ := set_few n
    have HS := Lib.hid (set_small n)
    clear hblk
    unfold setV
    generalize hsp : setSpans n = sp at *
    have HSP := Lib.hid hsp
    clear hsp
    have F3 := setField3
    go_wp2
    go_loopw [4, 6] (fun t i wr => ∃ k q : Nat, k ≤ sp.length ∧ i = .int .i64 k ∧ t = .int .i64 (sizeS (sp.take k)) ∧ wr = w1.drewN q) (fun _ i _ => sp.length - (intOf i).toNat)
    case atStart => exact ⟨0, 0, Nat.zero_le _, rfl, rfl, rfl⟩
    case round =>
      obtain ⟨k, q, hk, rfl, rfl, rfl⟩ := hrel
      by_cases hlt : k < sp.length
      · have ⟨c0, c1, c2⟩ := HC.out k hlt
        have hsm := HS.out _ (List.getElem_mem hlt)
        have HD := Lib.hid (sizeS_take sp k hlt)
        have ⟨t0, t1⟩ := sizeS_small (sp.take k) (fun x hx => HS.out x (List.mem_of_mem_take hx))
        have t2 : (sp.take k).length ≤ 4 := by simp; omega
        generalize sp[k] = s at *
        obtain ⟨sc, sr, sn⟩ := s
        obtain ⟨⟨a1, a2⟩, ⟨a3, a4⟩, a5, a6⟩ := hsm
        have d2 : (w1.drewN q).cell? ⟨g, k * 3 + 2, none⟩ = some (.int .i64 sn) := c2
        simp only at a1 a2 a3 a4 a5 a6
        clear c0 c1 c2
        generalize hW : w1.drewN q = W at *
        have HW := Lib.hid hW
        clear hW
        have u1 : (0 : Int) ≤ (k : Int) := by omega
        have u2 : (k : Int) < (sp.length : Int) := by omega
        generalize hz : sizeS (sp.take k) = z at *
        have HZ := Lib.hid hz
        clear hz
        have u3 : IntKind.i64.wrap (z + sn) = z + sn := IntWalk.i64_in _ (by omega)
        go_wp2
        go_roundw
        case rel => exact ⟨k + 1, q, by omega, by go_num, by rw [HD.out], HW.out.symm⟩
        case measure => simp [intOf]; omega
      · go_wp2
        go_ret2
        have hkn : sp.length ≤ k := by omega
        refine ⟨ret_val ?_, below_drewN b1 q⟩
        rw [HE.out, List.take_of_length_le hkn]
        rfl

/-- The sets that have a character, of those before k. -/
def setsZ (r : Int) : Nat → List Int
  | 0 => []
  | k + 1 => setsZ r k ++ if 0 < codeS (setSpans ((k : Int) + 1)) r then [(k : Int) + 1] else []
theorem setsZ_length (r : Int) : ∀ k, (setsZ r k).length ≤ k
  | 0 => by simp [setsZ]
  | k + 1 => by
    have := setsZ_length r k
    simp only [setsZ, List.length_append]
    split <;> simp <;> omega
def RowDone (w : World) (zs : List Int) (e : Ending) (w' : World) : Prop := ∃ v, e = .returned v ∧ Own .i64 3 w' w.heap.size v zs ∧ Below w.heap.size w w'

set_option maxHeartbeats 1000000 in
theorem spec_SetsFor (r : Int) (w : World) : Calls Tryd.prog 25 #[.int .i64 r] w (RowDone w (setsZ r 8)) := by
  go_enter Tryd.func25, Tryd.ntmps25
  go_wp2
  go_loopw [3, 4] (fun v i wr => ∃ k : Nat, k ≤ 8 ∧ i = .int .i64 ((k : Int) + 1) ∧ Own .i64 3 wr w.heap.size v (setsZ r k) ∧ Below w.heap.size w wr) (fun _ i _ => 9 - (intOf i).toNat)
  case atStart => exact ⟨0, by omega, rfl, Own.lit .i64 3 w w.heap.size [] (Nat.le_refl _) (by simp), (Below.refl _ _).alloc (Nat.le_refl _) _⟩
  case round =>
    obtain ⟨k, hk, rfl, ho, hb⟩ := hrel
    by_cases hlt : k < 8
    · have hlt' : (k : Int) + 1 ≤ 8 := by omega
      go_wp2_with fail
      refine (spec_l02For ((k : Int) + 1) r wr).mono ?_
      rintro e w1 ⟨rfl, b1⟩
      have o1 := ho.all b1
      have B1 : Below w.heap.size w w1 := hb.trans (b1.mono hb.size)
      have hsz := B1.size
      have hlen := setsZ_length r k
      have HZ := Lib.hid (show setsZ r (k + 1) = setsZ r k ++ if 0 < codeS (setSpans ((k : Int) + 1)) r then [(k : Int) + 1] else [] from rfl)
      clear ho hb b1
      generalize codeS (setSpans ((k : Int) + 1)) r = c at *
      by_cases hc : 0 < c
      · go_wp2_with (at_builtin; refine app_i64 _ rfl _ _ rfl w.heap.size _ _ rfl (o1.alloc _) ⟨w1.heap.size, 0, none⟩ 1 1 [(k : Int) + 1] rfl rfl (by omega) (World.news_of_block (heap_alloc_new _ _)) (by omega) (by simp; omega) ?_)
        intro g cap2 w4 o4 g4 lt4
        go_wp2
        go_roundw
        case rel => exact ⟨k + 1, by omega, by go_num, by rw [HZ.out, if_pos hc]; exact o4, (B1.alloc hsz _).grown g4 (by simp; omega) (fun j hj => (World.ownsRow.lt o1 j hj).1)⟩
        case measure => simp [intOf]; omega
      · have hc' : (c ≤ 0) := by omega
        go_wp2
        go_roundw
        case rel => exact ⟨k + 1, by omega, by go_num, by rw [HZ.out, if_neg (by omega), List.append_nil]; exact o1, B1⟩
        case measure => simp [intOf]; omega
    · have hk8 : k = 8 := by omega
      subst hk8
      go_wp2
      go_ret
      exact ⟨_, rfl, ho, hb⟩

/-- A struct in a slot of its own and a number are handed back. -/
theorem results_row_tmp {P : Program} {fn : Func} {p u : Tmp} {ty : TypeId} (h : fn.results = #[.cell p ty, .tmp u]) (tmps : Array Value) (w : World) (g : Nat) (t : TypeId) (cs : Array Value) (fr : Nat × Nat) (d : TypeDesc)
    (hp : tmps.getD p undef = .pointer (some ⟨g, 0, none⟩)) (hg : w.heap[g]? = some (.cells cs t fr))
    (hu : P.underlying ty = some d) (hd : (match d with | .struct _ | .array _ _ => true | _ => false) = true) (hi : (P.info? ty).map (·.size) = some cs.size) :
    (results fn tmps).run P w = .ok (.tuple #[.agg cs, tmps.getD u undef]) w := by
  rw [results_cell_tmp h, hp]
  simp [asAddr, run_loadVar_row w g t ty cs fr d hg hu hd hi, Result.andThen]

def zeroSet : Value := .agg #[.string ⟨#[]⟩, .int .i64 0, .int .i64 0, .slice none 0 0]
def SetRet (n : Int) (w : World) (e : Ending) (w' : World) : Prop :=
  (setB n = false ∧ e = .returned (.tuple #[zeroSet, .int .i64 5]) ∨ setB n = true ∧ ∃ g, e = .returned (.tuple #[setV n g, .int .i64 0]) ∧ w.heap.size ≤ g ∧ w'.heap[g]? = some (setO n)) ∧ Below w.heap.size w w'

set_option maxHeartbeats 1000000 in
set_option maxRecDepth 100000 in
theorem spec_SetOf (n : Int) (w : World) : Calls Tryd.prog 15 #[.int .i64 n] w (SetRet n w) := by
  cases hn : setB n
  · go_enter Tryd.func15, Tryd.ntmps15
    go_wp2_with fail
    refine (spec_l01In n 1 8 _).mono ?_
    rintro e w1 ⟨rfl, rfl⟩
    rw [show inB n 1 8 = false from hn]
    go_wp2
    exact bodyPost_ret (results_row_tmp rfl _ _ w.heap.size _ _ _ _ rfl (heap_alloc_new _ _) Tryd.underlying26 rfl (by kernel_rfl)) rfl ⟨.inl ⟨hn, rfl⟩, (Below.refl _ _).alloc (Nat.le_refl _) _⟩
  · go_enter Tryd.func15, Tryd.ntmps15
    go_wp2_with fail
    refine (spec_l01In n 1 8 _).mono ?_
    rintro e w1 ⟨rfl, rfl⟩
    rw [show inB n 1 8 = true from hn]
    go_wp2_with fail
    refine (spec_l02Set n _).mono ?_
    rintro e w1 ⟨g, rfl, hg, hblk, b1⟩
    have hz := b1.block w.heap.size (by simp)
    rw [heap_alloc_new] at hz
    have hlt : w.heap.size < w1.heap.size := (Array.getElem?_eq_some_iff.1 hz).1
    have c0 : w1.cell? ⟨w.heap.size, 0, none⟩ = some (.string ⟨#[]⟩) := by rw [cell_of_row _ _ _ _ _ _ hz]; rfl
    have c1 : w1.cell? ⟨w.heap.size, 1, none⟩ = some (.int .i64 0) := by rw [cell_of_row _ _ _ _ _ _ hz]; rfl
    have c2 : w1.cell? ⟨w.heap.size, 2, none⟩ = some (.int .i64 0) := by rw [cell_of_row _ _ _ _ _ _ hz]; rfl
    have c3 : w1.cell? ⟨w.heap.size, 3, none⟩ = some (.slice none 0 0) := by rw [cell_of_row _ _ _ _ _ _ hz]; rfl
    have z0 := frozen_of_row w1 _ 0 _ _ hz
    have z1 := frozen_of_row w1 _ 1 _ _ hz
    have z2 := frozen_of_row w1 _ 2 _ _ hz
    have z3 := frozen_of_row w1 _ 3 _ _ hz
    have HZ := Lib.hid hz
    have HB := Lib.hid hblk
    clear hz hblk
    unfold setV
    go_wp2
    have hgs : w.heap.size + 1 ≤ g := by simpa using hg
    have k0 := heap_setCell_same w1 w.heap.size 0 _ _ (.string (setName n)) HZ.out
    have k1 := heap_setCell_same _ w.heap.size 1 _ _ (.int .i64 (setKind n)) k0
    have k2 := heap_setCell_same _ w.heap.size 2 _ _ (.int .i64 (setFinal n)) k1
    have k3 := heap_setCell_same _ w.heap.size 3 _ _ (.slice (some ⟨g, 0, none⟩) (setSpans n).length (setSpans n).length) k2
    refine bodyPost_ret (results_row_tmp rfl _ _ w.heap.size _ _ _ _ rfl k3 Tryd.underlying26 rfl (by kernel_rfl)) rfl ⟨.inr ⟨hn, g, rfl, by omega, ?_⟩, ?_⟩
    · rw [Below.heap_setCell _ _ _ _ (by simp; omega), Below.heap_setCell _ _ _ _ (by simp; omega), Below.heap_setCell _ _ _ _ (by simp; omega), Below.heap_setCell _ _ _ _ (by simp; omega)]
      exact HB.out
    · have hb1 : Below w.heap.size w w1 := ((Below.refl _ _).alloc (Nat.le_refl _) _).trans (b1.mono (by simp))
      exact (((hb1.setCell (Nat.le_refl _) _).setCell (Nat.le_refl _) _).setCell (Nat.le_refl _) _).setCell (Nat.le_refl _) _

end Go.Proofs.YtlakpddabkmpoaaDoor

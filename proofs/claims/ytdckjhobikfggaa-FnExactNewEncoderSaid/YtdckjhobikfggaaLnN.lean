/- NewEncoder: the specification's and the program's. -/
import Derived.Test.YtdckjhobikfggaaLnL
import Derived.Test.YtdckjhobikfggaaPrS0
namespace Go.Proofs.Ytdckjhobikfggaa
open Go.RowKit

theorem ec_ret2 {P : Program} {fn : Func} {p u : Tmp} {a : Act} {w1 : World} {g : Nat} {ty : TypeId} {d : TypeDesc} {y : Ec} {v : Value} {c : Int} {Q : Ending → World → Prop} (h : fn.results = #[.cell p ty, .tmp u])
    (hp : a.tmps.getD p undef = .pointer (some ⟨g, 0, none⟩)) (hc : a.tmps.getD u undef = .int .i64 c) (hg : EcAt w1 g y v)
    (hu : P.underlying ty = some d) (hd : (match d with | .struct _ | .array _ _ => true | _ => false) = true) (hi : (P.info? ty).map (·.size) = some 7) (hdef : a.defers = []) (hQ : Q (.returned (.tuple #[ecV y v, .int .i64 c])) w1) :
    bodyPost P fn Q .ret a w1 :=
  bodyPost_ret (results_row_tmp' h _ _ g _ _ _ _ hp hg hu hd hi) hdef (by rw [hc]; exact hQ)
theorem ec_ret1 {P : Program} {fn : Func} {p : Tmp} {a : Act} {w1 : World} {g : Nat} {ty : TypeId} {d : TypeDesc} {y : Ec} {v : Value} {Q : Ending → World → Prop} (h : fn.results = #[.cell p ty])
    (hp : a.tmps.getD p undef = .pointer (some ⟨g, 0, none⟩)) (hg : EcAt w1 g y v)
    (hu : P.underlying ty = some d) (hd : (match d with | .struct _ | .array _ _ => true | _ => false) = true) (hi : (P.info? ty).map (·.size) = some 7) (hdef : a.defers = []) (hQ : Q (.returned (ecV y v)) w1) :
    bodyPost P fn Q .ret a w1 :=
  bodyPost_ret (results_cell_row h _ _ g _ _ _ _ hp hg hu hd hi) hdef hQ

def neE (n : Int) : Ec := if proB n = true then newEc n else zeroEc
def neC (n : Int) : Int := if proB n = true then 0 else 5
def NeDone (n : Int) (w : World) (e : Ending) (w' : World) : Prop := ∃ v, e = .returned (.tuple #[ecV (neE n) v, .int .i64 (neC n)]) ∧ Own .i64 3 w' w.heap.size v [] ∧ Below w.heap.size w w'

set_option maxHeartbeats 1000000 in
set_option maxRecDepth 100000 in
theorem spec_l09New (n : Int) (w : World) : Calls Try.prog 19 #[.int .i64 n] w fun e w' => ∃ v, e = .returned (ecV (newEc n) v) ∧ Own .i64 3 w' w.heap.size v [] ∧ Below w.heap.size w w' := by
  have R0 : Hid (EcAt ((w.alloc (.cells #[.int .i64 n, .int .i64 0, .int .i64 0, .string ⟨#[]⟩, (.slice (some ⟨w.heap.size + 1, 0, none⟩) 0 0), .bool false, .bool false] 24)).alloc (.cells #[] 3)) w.heap.size (newEc n) (.slice (some ⟨w.heap.size + 1, 0, none⟩) 0 0)) := Lib.hid (heap_alloc2_old _ _ _)
  have B0 := Lib.hid (ecBelow2 w (.cells #[.int .i64 n, .int .i64 0, .int .i64 0, .string ⟨#[]⟩, (.slice (some ⟨w.heap.size + 1, 0, none⟩) 0 0), .bool false, .bool false] 24) (.cells #[] 3))
  have O0 : Hid (Own .i64 3 ((w.alloc (.cells #[.int .i64 n, .int .i64 0, .int .i64 0, .string ⟨#[]⟩, (.slice (some ⟨w.heap.size + 1, 0, none⟩) 0 0), .bool false, .bool false] 24)).alloc (.cells #[] 3)) w.heap.size (.slice (some ⟨w.heap.size + 1, 0, none⟩) 0 0) []) := Lib.hid (by
    have h := Own.lit .i64 3 (w.alloc (.cells #[.int .i64 n, .int .i64 0, .int .i64 0, .string ⟨#[]⟩, (.slice (some ⟨w.heap.size + 1, 0, none⟩) 0 0), .bool false, .bool false] 24)) w.heap.size [] (by simp) (by simp)
    rw [show (w.alloc (.cells #[.int .i64 n, .int .i64 0, .int .i64 0, .string ⟨#[]⟩, (.slice (some ⟨w.heap.size + 1, 0, none⟩) 0 0), .bool false, .bool false] 24)).heap.size = w.heap.size + 1 by simp] at h
    exact h)
  go_enter Try.func19, Try.ntmps19
  go_wp2
  exact ec_ret1 (y := newEc n) rfl rfl R0.out Try.underlying24 rfl (by kernel_rfl) rfl ⟨_, rfl, O0.out, B0.out⟩

set_option maxHeartbeats 1000000 in
set_option maxRecDepth 100000 in
theorem spec_NewEncoder (n : Int) (w : World) : Calls Try.prog 5 #[.int .i64 n] w (NeDone n w) := by
  have R0 := Lib.hid (ecSlot0 w)
  have B0 := Lib.hid (ecBelow1 w (.cells #[.int .i64 0, .int .i64 0, .int .i64 0, .string ⟨#[]⟩, .slice none 0 0, .bool false, .bool false] 24))
  have HN := Lib.hid (fun w => spec_l05No n w)
  have HS := Lib.hid (fun w => spec_l09New n w)
  unfold ecV at HS
  unfold NeDone
  cases hn : proB n
  · have HX : Hid (neE n = zeroEc) := Lib.hid (by simp [neE, hn])
    have HC : Hid (neC n = 5) := Lib.hid (by simp [neC, hn])
    rw [hn] at HN
    rw [HX.out, HC.out]
    clear hn HS
    go_enter Try.func5, Try.ntmps5
    go_wp2_with fail
    refine (HN.out _).mono ?_
    rintro e w1 ⟨rfl, rfl⟩
    go_wp2
    exact ec_ret2 (y := zeroEc) rfl rfl rfl R0.out Try.underlying24 rfl (by kernel_rfl) rfl ⟨_, rfl, Own.nil _ _ _ _, B0.out⟩
  · have HX : Hid (neE n = newEc n) := Lib.hid (by simp [neE, hn])
    have HC : Hid (neC n = 0) := Lib.hid (by simp [neC, hn])
    rw [hn] at HN
    rw [HX.out, HC.out]
    clear hn
    go_enter Try.func5, Try.ntmps5
    go_wp2_with fail
    refine (HN.out _).mono ?_
    rintro e w1 ⟨rfl, rfl⟩
    go_wp2_with fail
    refine (HS.out _).mono ?_
    generalize w.alloc (.cells #[.int .i64 0, .int .i64 0, .int .i64 0, .string ⟨#[]⟩, .slice none 0 0, .bool false, .bool false] 24) = W0 at *
    rintro e w1 ⟨v, rfl, o1, b1⟩
    have R1 := Lib.hid (R0.out.keep b1)
    have B1 := Lib.hid (B0.out.trans (b1.mono B0.out.size))
    have O1 := Lib.hid (o1.low B0.out.size)
    have hoff : v.ownBlock ≠ some w.heap.size := o1.off R0.out.lt
    have hl1 : w.heap.size < w1.heap.size := R1.out.lt
    obtain ⟨va, vc, rfl, _⟩ := o1.shape
    clear b1 R0 o1
    have ⟨r0, r1, r2, r3, r4, r5, r6⟩ := R1.out.cells
    have ⟨z0, z1, z2, z3, z4, z5, z6⟩ := R1.out.thaw
    simp only [zeroEc] at r0 r1 r2 r3 r4 r5 r6
    dsimp only [newEc] at *
    go_wp2
    exact ec_ret2 (y := newEc n) (v := .slice va 0 vc) rfl rfl rfl (R1.out.put (newEc n) (.slice va 0 vc)) Try.underlying24 rfl (by kernel_rfl) rfl ⟨.slice va 0 vc, rfl, O1.out.putEc hoff (newEc n), below_putEc B1.out (Nat.le_refl _) (newEc n) (.slice va 0 vc)⟩

set_option maxHeartbeats 1000000 in
set_option maxRecDepth 100000 in
theorem impl_NewEncoder (n : Int) (w : World) : Calls Try.prog 6 #[.int .i64 n] w (NeDone n w) := by
  have R0 := Lib.hid (ecSlot0 w)
  have B0 := Lib.hid (ecBelow1 w (.cells #[.int .i64 0, .int .i64 0, .int .i64 0, .string ⟨#[]⟩, .slice none 0 0, .bool false, .bool false] 24))
  have HN := Lib.hid (fun w => impl_isProfile n w)
  unfold NeDone
  cases hn : proB n
  · have HX : Hid (neE n = zeroEc) := Lib.hid (by simp [neE, hn])
    have HC : Hid (neC n = 5) := Lib.hid (by simp [neC, hn])
    rw [hn] at HN
    rw [HX.out, HC.out]
    clear hn
    go_enter Try.func6, Try.ntmps6
    go_wp2_with fail
    refine (HN.out _).mono ?_
    rintro e w1 ⟨rfl, rfl⟩
    go_wp2
    exact ec_ret2 (y := zeroEc) rfl rfl rfl R0.out Try.underlying24 rfl (by kernel_rfl) rfl ⟨_, rfl, Own.nil _ _ _ _, B0.out⟩
  · have HX : Hid (neE n = newEc n) := Lib.hid (by simp [neE, hn])
    have HC : Hid (neC n = 0) := Lib.hid (by simp [neC, hn])
    rw [hn] at HN
    rw [HX.out, HC.out]
    clear hn
    go_enter Try.func6, Try.ntmps6
    go_wp2_with fail
    refine (HN.out _).mono ?_
    rintro e w1 ⟨rfl, rfl⟩
    go_wp2
    exact ec_ret2 (y := newEc n) rfl rfl rfl (EcAt.new w (newEc n) (.slice none 0 0)) Try.underlying24 rfl (by kernel_rfl) rfl ⟨_, rfl, Own.nil _ _ _ _, ecBelow1 w _⟩

end Go.Proofs.Ytdckjhobikfggaa

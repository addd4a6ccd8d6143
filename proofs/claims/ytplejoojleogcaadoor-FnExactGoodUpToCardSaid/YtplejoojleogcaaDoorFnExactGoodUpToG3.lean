/- The tied card of 'FnExactGoodUpTo': from the walk to the given statement. The listed package-level variables start as the program's text lays them (the given tie). Joined of: DcY, FnExactGoodUpToWalk, FnExactGoodUpToCard. -/
import Derived.Test.YtplejoojleogcaaDoorFnExactStrictG2
import Derived.Test.YtplejoojleogcaaDoorFnExactStrictG1
import Derived.Test.YtplejoojleogcaaDoorCards
import Derived.Test.YtplejoojleogcaaDoorTie
import Derived.Test.YtplejoojleogcaaDoorVars
import Derived.Lib.Hide

namespace Go.Proofs.YtplejoojleogcaaDoor
open Go.RowKit Go.Sort

set_option maxHeartbeats 1000000 in
theorem spec_ValidText (n : Int) (s : ByteArray) (w : World) : Calls Tryd.prog 29 #[.int .i64 n, .string s] w (ValidTextDone n s w) := by
  have HA := Lib.hid (fun w => spec_l06Ask n s w)
  by_cases h1 : 65536 < s.size
  · have h1' : (65536 : Int) < (s.size : Int) := by omega
    have HCC : Hid (askC n s = 2) := Lib.hid (by rw [askC, if_pos h1])
    have HN : Hid (¬ askC n s = 0) := Lib.hid (by rw [HCC.out]; decide)
    go_enter Tryd.func29, Tryd.ntmps29
    go_wp2
    go_ret2
    exact ⟨by rw [vt_bad HN.out, HCC.out]; rfl, Below.refl _ _⟩
  have h1' : ¬ (65536 : Int) < (s.size : Int) := by omega
  by_cases hc : askC n s = 0
  · have HC := Lib.hid hc
    have hsz : s.size ≤ 4096 ∧ proB n = true := by
      unfold askC at hc
      split at hc
      · cases hc
      · split at hc
        · split at hc
          · cases hc
          · exact ⟨by omega, by assumption⟩
        · cases hc
    have HL := Lib.hid (fun w => spec_l06Decode n s w hsz.1)
    unfold DecDone at HL
    rw [hc] at HA
    clear hc hsz
    obtain ⟨d, hd⟩ : ∃ d, decP n s = d := ⟨_, rfl⟩
    have HD := Lib.hid hd
    rw [hd] at HL
    clear hd
    go_enter Tryd.func29, Tryd.ntmps29
    go_wp2_with fail
    refine (HA.out _).mono ?_
    rintro e w1 ⟨rfl, rfl⟩
    go_wp2_with fail
    refine (HL.out _).mono ?_
    rintro e w2 ⟨l, rfl, hOwn, b2⟩
    have HO := Lib.hid hOwn
    have B2 := Lib.hid b2
    have hC2 : w.heap.size ≤ w.heap.size := Nat.le_refl _
    clear hOwn b2
    go_wp2
    go_ret2
    exact ⟨by rw [vt_ok HC.out HD.out, HC.out]; rfl, B2.out⟩
  · obtain ⟨cc, hcc⟩ : ∃ cc, askC n s = cc := ⟨_, rfl⟩
    have HCC := Lib.hid hcc
    have HN := Lib.hid hc
    have ec : (cc != 0) = true := by rw [← hcc]; simpa using hc
    rw [hcc] at HA
    clear hc hcc
    go_enter Tryd.func29, Tryd.ntmps29
    go_wp2_with fail
    refine (HA.out _).mono ?_
    rintro e w1 ⟨rfl, rfl⟩
    go_wp2
    go_ret2
    exact ⟨by rw [vt_bad HN.out, HCC.out]; rfl, Below.refl _ _⟩

set_option maxHeartbeats 1000000 in
theorem spec_GoodUpTo (n : Int) (s : ByteArray) (w : World) : Calls Tryd.prog 31 #[.int .i64 n, .string s] w (GoodUpToDone n s w) := by
  have HA := Lib.hid (fun w => spec_l06Ask n s w)
  by_cases h1 : 65536 < s.size
  · have h1' : (65536 : Int) < (s.size : Int) := by omega
    have HCC : Hid (askC n s = 2) := Lib.hid (by rw [askC, if_pos h1])
    have HN : Hid (¬ askC n s = 0) := Lib.hid (by rw [HCC.out]; decide)
    go_enter Tryd.func31, Tryd.ntmps31
    go_wp2
    go_ret2
    exact ⟨by rw [gu_bad HN.out, HCC.out]; rfl, Below.refl _ _⟩
  have h1' : ¬ (65536 : Int) < (s.size : Int) := by omega
  by_cases hc : askC n s = 0
  · have HC := Lib.hid hc
    have hsz : s.size ≤ 4096 ∧ proB n = true := by
      unfold askC at hc
      split at hc
      · cases hc
      · split at hc
        · split at hc
          · cases hc
          · exact ⟨by omega, by assumption⟩
        · cases hc
    have HL := Lib.hid (fun w => spec_l06Decode n s w hsz.1)
    unfold DecDone at HL
    rw [hc] at HA
    clear hc hsz
    obtain ⟨d, hd⟩ : ∃ d, decP n s = d := ⟨_, rfl⟩
    have HD := Lib.hid hd
    rw [hd] at HL
    clear hd
    go_enter Tryd.func31, Tryd.ntmps31
    go_wp2_with fail
    refine (HA.out _).mono ?_
    rintro e w1 ⟨rfl, rfl⟩
    go_wp2_with fail
    refine (HL.out _).mono ?_
    rintro e w2 ⟨l, rfl, hOwn, b2⟩
    have HO := Lib.hid hOwn
    have B2 := Lib.hid b2
    have hC2 : w.heap.size ≤ w.heap.size := Nat.le_refl _
    clear hOwn b2
    go_wp2
    go_ret2
    exact ⟨by rw [gu_ok HC.out HD.out, HC.out]; rfl, B2.out⟩
  · obtain ⟨cc, hcc⟩ : ∃ cc, askC n s = cc := ⟨_, rfl⟩
    have HCC := Lib.hid hcc
    have HN := Lib.hid hc
    have ec : (cc != 0) = true := by rw [← hcc]; simpa using hc
    rw [hcc] at HA
    clear hc hcc
    go_enter Tryd.func31, Tryd.ntmps31
    go_wp2_with fail
    refine (HA.out _).mono ?_
    rintro e w1 ⟨rfl, rfl⟩
    go_wp2
    go_ret2
    exact ⟨by rw [gu_bad HN.out, HCC.out]; rfl, Below.refl _ _⟩

end Go.Proofs.YtplejoojleogcaaDoor

namespace Go.Proofs.YtplejoojleogcaaDoor.fnExactGoodUpTo
open Go.RowKit

set_option maxHeartbeats 1000000 in
theorem walk (n : Int) (s : ByteArray) (w : World) (_hn : (Lit.int .i64 n).wf = true) (hs : s.size ≤ maxLen) (ht : TabM w) : Calls Tryd.prog 6 #[.int .i64 n, .string s] w fun e w' => e = .returned (.bool true) ∧ Below w.heap.size w w' := by
  have HT := Lib.hid ht
  have hs' : s.size ≤ 9223372036854775807 := hs
  clear ht
  by_cases hb : 1048576 < s.size
  · go_enter Tryd.func6, Tryd.ntmps6
    go_wp2
    go_ret
    exact ⟨rfl, Below.refl _ _⟩
  · have hs2 : s.size ≤ 1048576 := by omega
    have HS := Lib.hid (fun w => spec_GoodUpTo n s w)
    have HI := Lib.hid (fun w ht => impl_GoodUpTo n s w ht)
    unfold GoodUpToDone at HS HI
    generalize askC n s = rc at *
    generalize guP n s = rv at *
    go_enter Tryd.func6, Tryd.ntmps6
    go_wp2_with fail
    refine (HS.out _).mono ?_
    rintro e w1 ⟨rfl, b1⟩
    go_wp2_with fail
    refine (HI.out _ (HT.out.keep b1)).mono ?_
    rintro e w2 ⟨rfl, b2⟩
    have B2 : Hid (Below w.heap.size w w2) := Lib.hid (b1.trans (b2.mono b1.size))
    clear b1 b2
    go_wp2
    go_ret
    exact ⟨rfl, B2.out⟩

theorem table {W : World} (h : laidMetH Tryd.prog Rows.fnExactGoodUpToRow.laid W) : TabM W := tabM_of_laid h
theorem readable : ∀ n ∈ Rows.fnExactGoodUpToSpec.vars, ∀ g t, Tryd.prog.globalNamed n = some g → (Tryd.prog.globals[g]?).map (·.type) = some t → Tryd.prog.readableRec t = true ∧ t < Tryd.prog.types.size := sets_readable

end Go.Proofs.YtplejoojleogcaaDoor.fnExactGoodUpTo

namespace Go.Proofs.YtplejoojleogcaaDoor.fnExactGoodUpTo
open Go.ChangeShapes Go.WideShapes Go.ChangeAt Go.RowKit
open Go.ChangeMaps (open_string shut_string)
set_option linter.unusedVariables false

set_option maxRecDepth 100000 in
theorem contract (H : Type) (enc : TypeId × Value → H) (W : World) (base : Nat) (args : Array Value) (ds gs : List (DataW H)) (before : List MemPlace)
    (hval : ∀ (j : Nat) t v, Tryd.f6.params[j]? = some t → args[j]? = some v → Value.okWide Tryd.prog W .any base t v)
    (hW : DataW.Whole enc Tryd.prog Tryd.f6.params.toList Rows.fnExactGoodUpToSpec.vars false W args.toList ds gs before) (hL : laidMetH Tryd.prog Rows.fnExactGoodUpToRow.laid W) :
    Calls Tryd.prog 6 args W fun e W' => ∃ v, e = .returned v ∧ Rows.fnExactGoodUpToSpec.post enc Tryd.prog Tryd.f6 false true false false W args v W' := by
  have HT := Lib.hid (table hL)
  clear hL
  have hW' := hW
  obtain ⟨p, q, hA0, hV0, rfl, hfz, hnd⟩ := hW
  have hV : DataW.TrodVars enc Tryd.prog W (fun _ => true) ["loop.example/g00748/impl.registry"] gs q := hV0
  clear hV0
  have hA : DataW.TrodAll enc Tryd.prog W 0 (fun _ => true) true Tryd.f6.params.toList args.toList ds p := hA0
  rw [Tryd.params6] at hA hval
  obtain ⟨v0, vs0, d0, ds0, p0, q0, hargs, rfl, rfl, h0, r0⟩ := trodAll_cons hA
  obtain ⟨v1, vs1, d1, ds1, p1, q1, rfl, rfl, rfl, h1, r1⟩ := trodAll_cons r0
  obtain ⟨rfl, rfl, rfl⟩ := trodAll_nil r1
  obtain rfl : args = #[v0, v1] := by cases args; simp_all
  have hgs : ∃ d, gs = [d] := by obtain ⟨_, _, _, _, d, _, hgs, _⟩ := trodVars_one hV; exact ⟨d, hgs⟩
  obtain ⟨g1, rfl⟩ := hgs
  obtain ⟨a0, rfl, rfl, rfl, w0⟩ := open_int Tryd.underlying3 (hval 0 3 v0 rfl rfl) h0
  obtain ⟨a1, rfl, rfl, rfl, w1⟩ := open_string Tryd.underlying9 (hval 1 9 v1 rfl rfl) h1
  clear hA0
  refine (walk a0 a1 W w0 w1 HT.out).mono fun e W' ⟨he, bel⟩ => ?_
  subst he
  exact ⟨_, rfl, _, _, _, [], [], q, hW', trodAll_mk1 (shut_bool Tryd.underlying4 _), (trodAll_cons_mk (shut_int Tryd.underlying3 w0) (trodAll_cons_mk (shut_string Tryd.underlying9 w1) trodAll_mk0)), trodVars_below laidOut bel readable hV, bel.frame _, fun h => by cases h⟩

theorem laid_met (os : Os) : laidMetH Tryd.prog Rows.fnExactGoodUpToRow.laid ((World.doorLaid Tryd.prog 400 os).forCall (fun _ _ => 0) ⟨#[], #[.int .i64 0, .string ByteArray.empty], []⟩).memory :=
  laidMetH_of_parts3 (fuel := 8) (laidMet_of_run' 8 (by kernel_rfl) (by kernel_rfl)) (by kernel_rfl) (by kernel_rfl)
theorem reads (os : Os) {H : Type} (enc : TypeId × Value → H) : ∃ x, DataW.whole enc Tryd.prog ((World.doorLaid Tryd.prog 400 os).forCall (fun _ _ => 0) ⟨#[], #[.int .i64 0, .string ByteArray.empty], []⟩).memory Tryd.f6.params.toList Rows.fnExactGoodUpToSpec.vars false #[.int .i64 0, .string ByteArray.empty].toList 8 = some x :=
  Option.isSome_iff_exists.1 (by kernel_rfl)

set_option maxRecDepth 100000 in
theorem lifted (os : Os) (started : os.Started) (H : Type) (enc : TypeId × Value → H) (F : Stop.Interp) :
    ReturnsInHanded {} Tryd.checked os 6 .any ((OpenSpec.ofChange Rows.fnExactGoodUpToSpec).preRow enc Tryd.prog Tryd.f6 Rows.fnExactGoodUpToRow.domain false Rows.fnExactGoodUpToRow.laid) (((OpenSpec.ofChange Rows.fnExactGoodUpToSpec).at F).post enc Tryd.prog Tryd.f6 false true false false) := by
  obtain ⟨x, hx⟩ := reads os enc
  refine returnsInHanded_of_row (C := Tryd.checked) (s := OpenSpec.ofChange Rows.fnExactGoodUpToSpec) own started (by kernel_rfl) Tryd.func6
    (witness_row_atRef (enc := enc) (C := Tryd.checked) false (World.doorLaid Tryd.prog 400 os) #[.int .i64 0, .string ByteArray.empty] rfl (by kernel_rfl) (by kernel_rfl) (by kernel_rfl)
      (OpenSpec.preRow_of_cond 8 hx rfl (fun k hk => by cases hk) (by kernel_rfl) (laid_met os))) ?_
  intro W base args ds gs before hval hW _ _ _ hL _ _
  exact contract H enc W base args ds gs before hval hW hL

theorem said : Rows.FnExactGoodUpToSaid :=
  OpenClaim.holds_of_cond 6 Tryd.f6 rfl rfl rfl rfl rfl rfl rfl ⟨rfl, rfl, rfl, rfl, rfl⟩ rfl rfl rfl rfl rfl (by kernel_rfl) Tryd.func6 (by kernel_rfl)
    (of_decide_eq_true (by kernel_rfl)) (by unfold Func.isWrapper; first | (rw [if_pos (by decide +kernel)]; kernel_rfl) | (rw [if_neg (by decide +kernel)]; exact ⟨rfl, rfl⟩))
    (fun os started H enc _ F => by rw [OpenClaim.pre_eq_preRow]; exact lifted os started H enc F)

theorem plain (f : FuncId) (fn : Func) (hf : Tryd.pinned.checked.prog.funcNamed "loop.example/g00748/laws.FnExactGoodUpTo" = some f) (hfn : Tryd.pinned.checked.prog.funcs[f]? = some fn) :
    Rows.fnExactGoodUpToCard.stood.looks = Tryd.pinned.checked.prog.looks [] ∧ ∀ (j : Nat) t, fn.params[j]? = some t → Tryd.pinned.checked.prog.wantsStandIn t = false := by
  obtain rfl : f = 6 := Option.some.inj ((show Tryd.prog.funcNamed "loop.example/g00748/laws.FnExactGoodUpTo" = some 6 by kernel_rfl).symm.trans hf) |>.symm
  obtain rfl : fn = Tryd.f6 := (Option.some.inj (Tryd.func6.symm.trans hfn)).symm
  refine ⟨by kernel_rfl, fun j t ht => ?_⟩
  rw [Tryd.params6] at ht
  have hm := Array.mem_of_getElem? ht
  simp at hm
  rcases hm with rfl | rfl
  · exact (show Tryd.prog.wantsStandIn 3 = false by kernel_rfl)
  · exact (show Tryd.prog.wantsStandIn 9 = false by kernel_rfl)

theorem card : Rows.FnExactGoodUpToCardSaid :=
  Claim7.holds_tied_plain_at .later [] _ _ _ _ said (fun _ h => by cases h) (by kernel_rfl) (fun _ h => by cases h) fnExactGoodUpTo_row_tie rfl ⟨rfl, rfl⟩ (by kernel_rfl) rfl plain (by kernel_rfl)
end Go.Proofs.YtplejoojleogcaaDoor.fnExactGoodUpTo

namespace Go.Proofs.YtplejoojleogcaaDoor
theorem fnExactGoodUpTo_holds : Rows.FnExactGoodUpToCardSaid := fnExactGoodUpTo.card
end Go.Proofs.YtplejoojleogcaaDoor

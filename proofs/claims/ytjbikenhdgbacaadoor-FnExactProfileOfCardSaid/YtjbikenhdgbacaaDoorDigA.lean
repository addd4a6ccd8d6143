/- The specification's digits of a number. -/
import Derived.Test.YtjbikenhdgbacaaDoorInts
import Derived.IntWalk
import Derived.Lib.ItoaNum
import Derived.Lib.ItoaLen
import Derived.Deep.RegionWith
namespace Go.Proofs.YtjbikenhdgbacaaDoor
open Go.RowKit

/-- The decimal text of a number. -/
def digV (n : Int) : ByteArray := ⟨(Lib.itoa n).toArray⟩
theorem digV_size (n : Int) (h0 : -9223372036854775808 ≤ n) (h1 : n ≤ 9223372036854775807) : (digV n).size ≤ 21 := by
  have := Lib.itoa_length_le n (by omega) (by omega)
  simpa [digV, ByteArray.size] using this
theorem digV_one (k : Nat) (h : k < 10) : digV k = bs [48 + (k : Int)] := by
  have h2 : ¬ ((k : Int) < 0) := by omega
  have h3 : (48 + (k : Int)).toNat = 48 + k := by omega
  simp [digV, Lib.itoa, h2, Lib.decDigits_one h, bs, h3]
theorem digV_more (k : Nat) (h : ¬ k < 10) : digV k = digV ((k / 10 : Nat) : Int) ++ bs [48 + ((k % 10 : Nat) : Int)] := by
  have h2 : ¬ ((k : Int) < 0) := by omega
  have h4 : ¬ (((k / 10 : Nat) : Int) < 0) := by omega
  have h3 : (48 + ((k % 10 : Nat) : Int)).toNat = 48 + k % 10 := by omega
  apply ByteArray.ext
  simp only [digV, Lib.itoa, h2, h4, if_false, Int.toNat_natCast, ByteArray.data_append, bs, List.map_cons, List.map_nil, h3]
  rw [Lib.decDigits, dif_neg h]
  simp
theorem digV_neg (n : Int) (h : n < 0) : digV n = ⟨#[45]⟩ ++ digV (-n) := by
  have h2 : ¬ (-n < 0) := by omega
  have h3 : n.natAbs = (-n).toNat := by omega
  apply ByteArray.ext
  have h4 : n ≤ 0 := by omega
  simp [digV, Lib.itoa, h, h3, h4]

theorem calls_keep0 {P : Program} {f : FuncId} {args : Array Value} {w : World} {v : Ending} (h : Calls P f args w fun e w' => e = v ∧ Below w.heap.size w w') :
    Calls P f args w fun e w' => e = v ∧ Below w.heap.size w w' ∧ ∀ g, g < w.heap.size → w'.cell? ⟨g, 0, none⟩ = w.cell? ⟨g, 0, none⟩ :=
  h.mono fun _ _ ⟨h1, h2⟩ => ⟨h1, h2, fun _ hg => h2.cell hg⟩
theorem bel_drew {w w' : World} (h : Below w.drew.heap.size w.drew w') : Below w.heap.size w w' := (Below.refl w.heap.size w).drew.trans h
theorem bel_alloc {w w' : World} {o : Obj} (h : Below (w.alloc o).drew.heap.size (w.alloc o).drew w') : Below w.heap.size w w' := ((Below.refl w.heap.size w).alloc (Nat.le_refl _) o).drew.trans (h.mono (by show w.heap.size ≤ (w.alloc o).heap.size; simp))
theorem conv_one (w : World) (g : Nat) (x : Int) (h : w.cell? ⟨g, 0, none⟩ = some (.int .u8 x)) : (convert 22 9 (.slice (some ⟨g, 0, none⟩) 1 1)).run Tryd.prog w = .ok (.string (bs [x])) w :=
  conv_cells w ⟨g, 0, none⟩ 1 [x] (fun j hj => by
    obtain rfl : j = 0 := by simpa using hj
    simpa [Addr.add] using h)

theorem conv_lit1d (w : World) (x : Int) : (convert 22 9 (.slice (some ⟨w.heap.size, 0, none⟩) 1 1)).run Tryd.prog (w.alloc (.cells #[.int .u8 x] 5)).drew = .ok (.string (bs [x])) (w.alloc (.cells #[.int .u8 x] 5)).drew :=
  conv_one _ _ x (show (w.alloc (.cells #[.int .u8 x] 5)).cell? ⟨w.heap.size, 0, none⟩ = _ by rw [World.cell?_alloc_mark w #[.int .u8 x] 5 (0, 0) 0]; rfl)

set_option maxHeartbeats 1000000 in
set_option maxRecDepth 100000 in
theorem spec_digits (m : Nat) : ∀ (k : Nat) (w : World), k < m → k ≤ 9223372036854775807 → Calls Tryd.prog 115 #[.int .i64 (k : Int)] w fun e w' => e = .returned (.string (digV k)) ∧ Below w.heap.size w w' := by
  induction m with
  | zero => intro k w h; omega
  | succ m ih =>
    intro k w hk hm
    have z0 : ((k : Int) == -9223372036854775808) = false := by rw [beq_eq_false_iff_ne]; omega
    have z1 : (0 : Int) ≤ (k : Int) := by omega
    by_cases h10 : k < 10
    · have HE := Lib.hid (digV_one k h10)
      have cl := fun w' => conv_lit1 w' (48 + (k : Int))
      have u1 : IntKind.u8.wrap (48 + (k : Int)) = 48 + (k : Int) := by
        have : k = 0 ∨ k = 1 ∨ k = 2 ∨ k = 3 ∨ k = 4 ∨ k = 5 ∨ k = 6 ∨ k = 7 ∨ k = 8 ∨ k = 9 := by omega
        rcases this with rfl | rfl | rfl | rfl | rfl | rfl | rfl | rfl | rfl | rfl <;> rfl
      go_enter Tryd.func115, Tryd.ntmps115
      go_wp2_with fail
      go_ret
      exact ⟨ret_str HE.out.symm, (Below.refl _ _).alloc (Nat.le_refl _) _⟩
    · have HE := Lib.hid (digV_more k h10)
      have q1 : (k : Int).tdiv 10 = ((k / 10 : Nat) : Int) := by rw [Int.tdiv_eq_ediv_of_nonneg z1]; rfl
      have q2 : (k : Int).tmod 10 = ((k % 10 : Nat) : Int) := by rw [Int.tmod_eq_emod_of_nonneg z1]; rfl
      have hd : k / 10 < m := by omega
      have hd2 : k / 10 ≤ 9223372036854775807 := by omega
      have hr : k % 10 < 10 := by omega
      generalize k / 10 = a at *
      generalize k % 10 = b at *
      have u1 : IntKind.u8.wrap (48 + (b : Int)) = 48 + (b : Int) := by
        have : b = 0 ∨ b = 1 ∨ b = 2 ∨ b = 3 ∨ b = 4 ∨ b = 5 ∨ b = 6 ∨ b = 7 ∨ b = 8 ∨ b = 9 := by omega
        rcases this with rfl | rfl | rfl | rfl | rfl | rfl | rfl | rfl | rfl | rfl <;> rfl
      have z2 := digV_size (a : Int) (by omega) (by omega)
      have z3 : (bs [48 + (b : Int)]).size = 1 := rfl
      have cl := fun w' => conv_lit1 w' (48 + (b : Int))
      have cg := fun w' g => conv_one w' g (48 + (b : Int))
      have ch := fun w' => conv_lit1d w' (48 + (b : Int))
      have u2 : IntKind.i64.wrap (a : Int) = (a : Int) := IntWalk.i64_in _ (by omega)
      have u3 : IntKind.i64.wrap (48 + (b : Int)) = 48 + (b : Int) := IntWalk.i64_in _ (by omega)
      go_enter Tryd.func115, Tryd.ntmps115
      go_wp2_with fail
      go_region_with ((go_at_call 115; refine (calls_keep0 (ih a _ hd hd2)).mono ?_; rintro e w' ⟨rfl, hb', hkeep⟩))
      all_goals clear cl cg ch
      all_goals have BF : Below w.heap.size w w' := by first | exact bel_drew hb' | exact bel_alloc hb'
      all_goals first
        | (have B2 := BF.alloc BF.size (.cells #[.int .u8 (48 + (b : Int))] 5); clear hkeep; go_wp2_with fail; go_ret; exact ⟨ret_str HE.out.symm, B2⟩)
        | (clear hkeep; go_wp2_with fail; go_ret; exact ⟨ret_str HE.out.symm, BF⟩)

theorem digV_min : digV (-9223372036854775808) = ⟨#[45, 57, 50, 50, 51, 51, 55, 50, 48, 51, 54, 56, 53, 52, 55, 55, 53, 56, 48, 56]⟩ := by
  have e : digV (-9223372036854775808) = ⟨#[45]⟩ ++ digV ((9223372036854775808 : Nat) : Int) := digV_neg _ (by decide)
  rw [e]
  apply ByteArray.ext
  simp only [digV, Lib.itoa, ByteArray.data_append]
  simp [Lib.decDigits]

set_option maxHeartbeats 1000000 in
theorem spec_l00Digits (n : Int) (w : World) (h0 : -9223372036854775808 ≤ n) (h1 : n ≤ 9223372036854775807) : Calls Tryd.prog 115 #[.int .i64 n] w fun e w' => e = .returned (.string (digV n)) ∧ Below w.heap.size w w' := by
  by_cases hn : 0 ≤ n
  · obtain ⟨k, rfl⟩ := Int.eq_ofNat_of_zero_le hn
    exact spec_digits (k + 1) k w (by omega) (by omega)
  · by_cases hm : n = -9223372036854775808
    · subst hm
      have HE := Lib.hid digV_min
      go_enter Tryd.func115, Tryd.ntmps115
      go_wp2_with fail
      go_ret
      exact ⟨ret_str HE.out.symm, Below.refl _ _⟩
    · have z0 : (n == -9223372036854775808) = false := by rw [beq_eq_false_iff_ne]; exact hm
      have z1 : n < 0 := by omega
      have HE := Lib.hid (digV_neg n z1)
      obtain ⟨k, hk⟩ := Int.eq_ofNat_of_zero_le (show 0 ≤ -n by omega)
      have u1 : IntKind.i64.wrap (-n) = -n := IntWalk.i64_in _ (by omega)
      have z2 := digV_size (-n) (by omega) (by omega)
      have hk2 : k ≤ 9223372036854775807 := by omega
      rw [hk] at HE u1 z2
      clear hm hn
      go_enter Tryd.func115, Tryd.ntmps115
      go_wp2_with fail
      refine (spec_digits (k + 1) k _ (Nat.lt_succ_self k) hk2).mono ?_
      rintro e w' ⟨rfl, hb'⟩
      go_wp2_with fail
      go_ret
      exact ⟨ret_str HE.out.symm, hb'⟩

end Go.Proofs.YtjbikenhdgbacaaDoor

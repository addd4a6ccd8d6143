/- Contracts of the small functions on characters: RuneOK, l01Put, PutRune. No condition. -/
import Derived.Test.YtdckjhobikfggaaDoorConv
namespace Go.Proofs.YtdckjhobikfggaaDoor
open Go.RowKit

def inB (n lo hi : Int) : Bool := decide (lo ≤ n) && decide (n ≤ hi)
def okB (r : Int) : Bool := inB r 0 1114111 && !inB r 55296 57343

theorem inB_true {n lo hi : Int} (h : inB n lo hi = true) : lo ≤ n ∧ n ≤ hi := by simpa [inB] using h
theorem okB_true {r : Int} (h : okB r = true) : 0 ≤ r ∧ r ≤ 1114111 ∧ (r < 55296 ∨ 57343 < r) := by
  simp [okB, inB] at h; omega
theorem okB_mk {r : Int} (h0 : 0 ≤ r) (h1 : r ≤ 1114111) (h2 : r < 55296 ∨ 57343 < r) : okB r = true := by
  simp [okB, inB]; omega
theorem okB_valid (r : Int) : Utf8.valid r = okB r := by
  rw [Bool.eq_iff_iff]; simp [Utf8.valid, okB, inB]; omega

theorem ret_bool {a b : Bool} (h : a = b) : Ending.returned (.bool a) = .returned (.bool b) := by rw [h]
theorem ret_int {k : IntKind} {a b : Int} (h : a = b) : Ending.returned (.int k a) = .returned (.int k b) := by rw [h]
theorem ret_str {a b : ByteArray} (h : a = b) : Ending.returned (.string a) = .returned (.string b) := by rw [h]
theorem ret_val {a b : Value} (h : a = b) : Ending.returned a = .returned b := by rw [h]

theorem spec_l01In (n lo hi : Int) (w : World) : Calls Tryd.prog 52 #[.int .i64 n, .int .i64 lo, .int .i64 hi] w fun e w' => e = .returned (.bool (inB n lo hi)) ∧ w = w' := by
  by_cases h1 : lo ≤ n
  · by_cases h2 : n ≤ hi
    all_goals
      go_enter Tryd.func52, Tryd.ntmps52
      go_wp2
      go_ret
      exact ⟨by simp [inB, *], rfl⟩
  · go_enter Tryd.func52, Tryd.ntmps52
    go_wp2
    go_ret
    exact ⟨by simp [inB]; omega, rfl⟩

theorem spec_l01OK (r : Int) (w : World) : Calls Tryd.prog 45 #[.int .i64 r] w fun e w' => e = .returned (.bool (okB r)) ∧ w = w' := by
  by_cases h : inB r 0 1114111 = true
  · go_enter Tryd.func45, Tryd.ntmps45
    go_wp2_with (go_at_call 52; refine (spec_l01In _ _ _ _).mono ?_; rintro e w' ⟨rfl, rfl⟩)
    go_ret
    exact ⟨by simp [okB, h], rfl⟩
  · go_enter Tryd.func45, Tryd.ntmps45
    go_wp2_with (go_at_call 52; refine (spec_l01In _ _ _ _).mono ?_; rintro e w' ⟨rfl, rfl⟩)
    go_ret
    exact ⟨by simp [okB, h], rfl⟩

theorem impl_RuneOK (r : Int) (w : World) : Calls Tryd.prog 18 #[.int .i64 r] w fun e w' => e = .returned (.bool (okB r)) ∧ w = w' := by
  by_cases h1 : 0 ≤ r
  · by_cases h2 : r ≤ 1114111
    · by_cases h3 : r < 55296
      all_goals
        go_enter Tryd.func18, Tryd.ntmps18
        go_wp2
        go_ret
        refine ⟨ret_bool ?_, rfl⟩
        rw [Bool.eq_iff_iff]; simp [okB, inB]; omega
    · go_enter Tryd.func18, Tryd.ntmps18
      go_wp2
      go_ret
      exact ⟨by simp [okB, inB]; omega, rfl⟩
  · go_enter Tryd.func18, Tryd.ntmps18
    go_wp2
    go_ret
    exact ⟨by simp [okB, inB]; omega, rfl⟩

/-- The four ways in which a character is written. -/
theorem enc1 (r : Int) (hv : okB r = true) (h : r < 128) : bs [r] = Utf8.encode r := by
  have ⟨h0, _, _⟩ := okB_true hv
  rw [← okB_valid] at hv
  unfold Utf8.encode
  simp [hv, show r.toNat < 128 by omega, bs]
theorem enc2 (r : Int) (hv : okB r = true) (h0 : 128 ≤ r) (h : r < 2048) : bs [192 + r / 64, 128 + r % 64] = Utf8.encode r := by
  rw [← okB_valid] at hv
  unfold Utf8.encode
  have e1 : (192 + r / 64).toNat = 192 + r.toNat / 64 := by omega
  have e2 : (128 + r % 64).toNat = 128 + r.toNat % 64 := by omega
  simp only [hv, if_true, show ¬ r.toNat < 128 by omega, show r.toNat < 2048 by omega, if_false, bs, List.map, e1, e2]
theorem enc3 (r : Int) (hv : okB r = true) (h0 : 2048 ≤ r) (h : r < 65536) : bs [224 + r / 4096, 128 + r / 64 % 64, 128 + r % 64] = Utf8.encode r := by
  rw [← okB_valid] at hv
  unfold Utf8.encode
  have e1 : (224 + r / 4096).toNat = 224 + r.toNat / 4096 := by omega
  have e2 : (128 + r / 64 % 64).toNat = 128 + r.toNat / 64 % 64 := by omega
  have e3 : (128 + r % 64).toNat = 128 + r.toNat % 64 := by omega
  simp only [hv, if_true, show ¬ r.toNat < 128 by omega, show ¬ r.toNat < 2048 by omega, show r.toNat < 65536 by omega, if_false, bs, List.map, e1, e2, e3]
theorem enc4 (r : Int) (hv : okB r = true) (h0 : 65536 ≤ r) : bs [240 + r / 262144, 128 + r / 4096 % 64, 128 + r / 64 % 64, 128 + r % 64] = Utf8.encode r := by
  rw [← okB_valid] at hv
  unfold Utf8.encode
  have e0 : (240 + r / 262144).toNat = 240 + r.toNat / 262144 := by omega
  have e1 : (128 + r / 4096 % 64).toNat = 128 + r.toNat / 4096 % 64 := by omega
  have e2 : (128 + r / 64 % 64).toNat = 128 + r.toNat / 64 % 64 := by omega
  have e3 : (128 + r % 64).toNat = 128 + r.toNat % 64 := by omega
  simp only [hv, if_true, show ¬ r.toNat < 128 by omega, show ¬ r.toNat < 2048 by omega, show ¬ r.toNat < 65536 by omega, if_false, bs, List.map, e0, e1, e2, e3]

theorem spec_l01Put (r : Int) (h : okB r = true) (w : World) : Calls Tryd.prog 46 #[.int .i64 r] w fun e w' => e = .returned (.string (Utf8.encode r)) ∧ Below w.heap.size w w' := by
  have ⟨h0, h1, h2⟩ := okB_true h
  have c1 := conv_lit1
  have c2 := conv_lit2
  have c3 := conv_lit3
  have c4 := conv_lit4
  go_enter Tryd.func46, Tryd.ntmps46
  go_wp2
  all_goals clear c1 c2 c3 c4
  all_goals go_ret
  all_goals refine ⟨ret_str ?_, (Below.refl _ _).alloc (Nat.le_refl _) _⟩
  · exact enc1 r h ‹_›
  · exact enc2 r h ‹_› ‹_›
  · exact enc3 r h ‹_› ‹_›
  · exact enc4 r h ‹_›

/-- What PutRune returns. -/
def putV (r : Int) : ByteArray := if okB r = true then Utf8.encode r else ⟨#[]⟩
def putC (r : Int) : Int := if okB r = true then 0 else 4

theorem spec_PutRune (r : Int) (w : World) : Calls Tryd.prog 15 #[.int .i64 r] w fun e w' => e = .returned (.tuple #[.string (putV r), .int .i64 (putC r)]) ∧ Below w.heap.size w w' := by
  by_cases h : okB r = true
  · have hp : Hid (putV r = Utf8.encode r) := by simp [putV, h, Hid]
    have hc : Hid (putC r = 0) := by simp [putC, h, Hid]
    go_enter Tryd.func15, Tryd.ntmps15
    go_wp2_with fail
    refine (spec_l01OK _ _).mono ?_
    rintro e w' ⟨rfl, rfl⟩
    go_wp2_with fail
    refine (spec_l01Put _ h _).mono ?_
    rintro e w' ⟨rfl, hb⟩
    go_wp2
    go_ret2
    rw [hp.out, hc.out]
    exact ⟨rfl, hb⟩
  · have hp : Hid (putV r = ⟨#[]⟩) := by simp [putV, h, Hid]
    have hc : Hid (putC r = 4) := by simp [putC, h, Hid]
    have h' : okB r = false := by simpa using h
    go_enter Tryd.func15, Tryd.ntmps15
    go_wp2_with fail
    refine (spec_l01OK _ _).mono ?_
    rintro e w' ⟨rfl, rfl⟩
    go_wp2
    go_ret2
    rw [hp.out, hc.out]
    exact ⟨rfl, Below.refl _ _⟩

theorem impl_PutRune (r : Int) (w : World) : Calls Tryd.prog 14 #[.int .i64 r] w fun e w' => e = .returned (.tuple #[.string (putV r), .int .i64 (putC r)]) ∧ w = w' := by
  by_cases h : okB r = true
  · have hp : Hid (putV r = Utf8.encode r) := by simp [putV, h, Hid]
    have hc : Hid (putC r = 0) := by simp [putC, h, Hid]
    have ⟨h0, h1, h2⟩ := okB_true h
    go_enter Tryd.func14, Tryd.ntmps14
    go_wp2_with fail
    refine (impl_RuneOK _ _).mono ?_
    rintro e w' ⟨rfl, rfl⟩
    go_wp2
    go_ret2
    rw [hp.out, hc.out]
    exact ⟨rfl, rfl⟩
  · have hp : Hid (putV r = ⟨#[]⟩) := by simp [putV, h, Hid]
    have hc : Hid (putC r = 4) := by simp [putC, h, Hid]
    have h' : okB r = false := by simpa using h
    go_enter Tryd.func14, Tryd.ntmps14
    go_wp2_with fail
    refine (impl_RuneOK _ _).mono ?_
    rintro e w' ⟨rfl, rfl⟩
    go_wp2
    go_ret2
    rw [hp.out, hc.out]
    exact ⟨rfl, rfl⟩

end Go.Proofs.YtdckjhobikfggaaDoor

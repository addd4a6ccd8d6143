/- Contracts of the small functions on characters: RuneOK, l01Put, PutRune. No condition. -/
import Derived.Test.YtbamjhldebobhaaDoorConv
namespace Go.Proofs.YtbamjhldebobhaaDoor
open Go.RowKit

def inB (n lo hi : Int) : Bool := decide (lo ≤ n) && decide (n ≤ hi)
def okB (r : Int) : Bool := inB r 0 1114111 && !inB r 55296 57343

theorem inB_true {n lo hi : Int} (h : inB n lo hi = true) : lo ≤ n ∧ n ≤ hi := by simpa [inB] using h
theorem okB_true {r : Int} (h : okB r = true) : 0 ≤ r ∧ r ≤ 1114111 ∧ (r < 55296 ∨ 57343 < r) := by
  simp [okB, inB] at h; omega
theorem okB_mk {r : Int} (h0 : 0 ≤ r) (h1 : r ≤ 1114111) (h2 : r < 55296 ∨ 57343 < r) : okB r = true := by
  simp [okB, inB]; omega
theorem okB_valid (r : Int) : Utf8.valid r = okB r := by
  rw [Bool.eq_iff_iff]; simp [Utf8.valid, okB, inB]; omega

theorem ret_bool {a b : Bool} (h : a = b) : Ending.returned (.bool a) = .returned (.bool b) := by rw [h]
theorem ret_int {k : IntKind} {a b : Int} (h : a = b) : Ending.returned (.int k a) = .returned (.int k b) := by rw [h]
theorem ret_str {a b : ByteArray} (h : a = b) : Ending.returned (.string a) = .returned (.string b) := by rw [h]
theorem ret_val {a b : Value} (h : a = b) : Ending.returned a = .returned b := by rw [h]

theorem spec_l01In (n lo hi : Int) (w : World) : Calls Tryd.prog 41 #[.int .i64 n, .int .i64 lo, .int .i64 hi] w fun e w' => e = .returned (.bool (inB n lo hi)) ∧ w = w' := by
  by_cases h1 : lo ≤ n
  · by_cases h2 : n ≤ hi
    all_goals
      go_enter Tryd.func41, Tryd.ntmps41
      go_wp2
      go_ret
      exact ⟨by simp [inB, *], rfl⟩
  · go_enter Tryd.func41, Tryd.ntmps41
    go_wp2
    go_ret
    exact ⟨by simp [inB]; omega, rfl⟩

/-- The four ways in which a character is written. -/
theorem enc1 (r : Int) (hv : okB r = true) (h : r < 128) : bs [r] = Utf8.encode r := by
  have ⟨h0, _, _⟩ := okB_true hv
  rw [← okB_valid] at hv
  unfold Utf8.encode
  simp [hv, show r.toNat < 128 by omega, bs]
theorem enc2 (r : Int) (hv : okB r = true) (h0 : 128 ≤ r) (h : r < 2048) : bs [192 + r / 64, 128 + r % 64] = Utf8.encode r := by
  rw [← okB_valid] at hv
  unfold Utf8.encode
  have e1 : (192 + r / 64).toNat = 192 + r.toNat / 64 := by omega
  have e2 : (128 + r % 64).toNat = 128 + r.toNat % 64 := by omega
  simp only [hv, if_true, show ¬ r.toNat < 128 by omega, show r.toNat < 2048 by omega, if_false, bs, List.map, e1, e2]
theorem enc3 (r : Int) (hv : okB r = true) (h0 : 2048 ≤ r) (h : r < 65536) : bs [224 + r / 4096, 128 + r / 64 % 64, 128 + r % 64] = Utf8.encode r := by
  rw [← okB_valid] at hv
  unfold Utf8.encode
  have e1 : (224 + r / 4096).toNat = 224 + r.toNat / 4096 := by omega
  have e2 : (128 + r / 64 % 64).toNat = 128 + r.toNat / 64 % 64 := by omega
  have e3 : (128 + r % 64).toNat = 128 + r.toNat % 64 := by omega
  simp only [hv, if_true, show ¬ r.toNat < 128 by omega, show ¬ r.toNat < 2048 by omega, show r.toNat < 65536 by omega, if_false, bs, List.map, e1, e2, e3]
theorem enc4 (r : Int) (hv : okB r = true) (h0 : 65536 ≤ r) : bs [240 + r / 262144, 128 + r / 4096 % 64, 128 + r / 64 % 64, 128 + r % 64] = Utf8.encode r := by
  rw [← okB_valid] at hv
  unfold Utf8.encode
  have e0 : (240 + r / 262144).toNat = 240 + r.toNat / 262144 := by omega
  have e1 : (128 + r / 4096 % 64).toNat = 128 + r.toNat / 4096 % 64 := by omega
  have e2 : (128 + r / 64 % 64).toNat = 128 + r.toNat / 64 % 64 := by omega
  have e3 : (128 + r % 64).toNat = 128 + r.toNat % 64 := by omega
  simp only [hv, if_true, show ¬ r.toNat < 128 by omega, show ¬ r.toNat < 2048 by omega, show ¬ r.toNat < 65536 by omega, if_false, bs, List.map, e0, e1, e2, e3]

/-- What PutRune returns. -/
def putV (r : Int) : ByteArray := if okB r = true then Utf8.encode r else ⟨#[]⟩
def putC (r : Int) : Int := if okB r = true then 0 else 4

end Go.Proofs.YtbamjhldebobhaaDoor

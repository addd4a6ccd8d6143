/- The source's next, and what a rune drawn is. -/
import Derived.Test.YtbamjhldebobhaaDoorDraw
import Derived.Test.YtbamjhldebobhaaDoorOwn
namespace Go.Proofs.YtbamjhldebobhaaDoor
open Go.RowKit

/-- What 'next' leaves. -/
def NextDone (w : World) (b : Nat) (zs : List Int) (m : Nat) (n : Int) (e : Ending) (w' : World) : Prop := (∃ r : Int, e = .returned (.int .i64 r) ∧ 0 ≤ r ∧ (r = 0 ∨ r < n)) ∧ Src w' b zs (m + 3) ∧ Only b w w'
theorem Src.more {w : World} {b : Nat} {zs : List Int} {m m' : Nat} (h : Src w b zs m) (hm : m ≤ m') : Src w b zs m' := by
  obtain ⟨cv, k, seed, h1, h2, h3, h4⟩ := h
  exact ⟨cv, k, seed, h1, h2, by omega, h4⟩

set_option maxHeartbeats 1000000 in
theorem src_next (b : Nat) (zs : List Int) (m : Nat) (n : Int) (w : World) (h : Src w b zs m) (hm : m ≤ 1099511627770) (hn : n ≤ 16777216) :
    Calls Tryd.prog 45 #[.pointer (some ⟨b, 0, none⟩), .int .i64 n] w (NextDone w b zs m n) := by
  have HS := Lib.hid h
  clear h
  by_cases h1 : n ≤ 1
  · go_enter Tryd.func45, Tryd.ntmps45
    go_wp2
    go_ret
    exact ⟨⟨0, rfl, by omega, .inl rfl⟩, HS.out.more (by omega), Only.refl _ _⟩
  · have h1' : 1 < n := by omega
    by_cases h2 : n ≤ 256
    · go_enter Tryd.func45, Tryd.ntmps45
      go_wp2_with fail
      refine (src_byte b zs m _ HS.out (by omega)).mono ?_
      rintro e w1 ⟨⟨r, rfl, r0, r1⟩, s1, b1⟩
      have em : r.tmod n = r % n := Int.tmod_eq_emod_of_nonneg r0
      have n0 : (n == 0) = false := by simp; omega
      have hw : IntKind.i64.wrap (r % n) = r % n := IntWalk.i64_in _ (by have := Int.emod_nonneg r (show n ≠ 0 by omega); have := Int.emod_lt_of_pos r (show 0 < n by omega); omega)
      go_wp2
      go_ret
      have := Int.emod_nonneg r (show n ≠ 0 by omega)
      have := Int.emod_lt_of_pos r (show 0 < n by omega)
      exact ⟨⟨_, rfl, by omega, .inr (by omega)⟩, s1.more (by omega), b1⟩
    · go_enter Tryd.func45, Tryd.ntmps45
      go_wp2_with fail
      refine (src_byte b zs m _ HS.out (by omega)).mono ?_
      rintro e w1 ⟨⟨r, rfl, r0, r1⟩, s1, b1⟩
      go_wp2_with fail
      refine (src_byte b zs (m + 1) _ s1 (by omega)).mono ?_
      rintro e w2 ⟨⟨r2, rfl, r20, r21⟩, s2, b2⟩
      go_wp2_with fail
      refine (src_byte b zs (m + 2) _ s2 (by omega)).mono ?_
      rintro e w3 ⟨⟨r3, rfl, r30, r31⟩, s3, b3⟩
      go_wp2
      go_ret
      have := Int.emod_nonneg (r * 65536 + r2 * 256 + r3) (show n ≠ 0 by omega)
      have := Int.emod_lt_of_pos (r * 65536 + r2 * 256 + r3) (show 0 < n by omega)
      exact ⟨⟨_, rfl, by omega, .inr (by omega)⟩, s3.more (by omega), (b1.trans b2).trans b3⟩

end Go.Proofs.YtbamjhldebobhaaDoor

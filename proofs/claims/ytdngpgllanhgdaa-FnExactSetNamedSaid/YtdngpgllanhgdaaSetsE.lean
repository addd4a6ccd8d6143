/- The registry: SetNamed, FindSet, SizeOf, SetsFor of the specification. -/
import Derived.Test.YtdngpgllanhgdaaSetsD
namespace Go.Proofs.Ytdngpgllanhgdaa
open Go.RowKit

/-- The first number from k on, of f of them, of which p holds; 0 of none. -/
def firstNo (p : Int → Bool) : Nat → Int → Int
  | 0, _ => 0
  | f + 1, k => if p k = true then k else firstNo p f (k + 1)
def nameNo (s : ByteArray) : Int := firstNo (fun k => decide (setName k = s)) 8 1
def findNo (kind final : Int) : Int := firstNo (fun k => decide (setKind k = kind) && decide (setFinal k = final)) 8 1
theorem firstNo_le (p : Int → Bool) : ∀ f k, 0 ≤ k → firstNo p f k = 0 ∨ (k ≤ firstNo p f k ∧ firstNo p f k < k + f ∧ p (firstNo p f k) = true)
  | 0, k, _ => .inl rfl
  | f + 1, k, hk => by
    unfold firstNo
    split
    · rename_i h; exact .inr ⟨by omega, by omega, h⟩
    · rcases firstNo_le p f (k + 1) (by omega) with h | ⟨h1, h2, h3⟩
      · exact .inl h
      · exact .inr ⟨by omega, by omega, h3⟩
theorem str_ne' {s t : ByteArray} (h : ¬ s = t) : (s.toList == t.toList) = false := by
  rw [beq_eq_false_iff_ne, ByteArray.toList_eq, ByteArray.toList_eq]
  intro h2
  exact h (ByteArray.ext (Array.toList_inj.1 h2))
def snC (s : ByteArray) : Int := if 65536 < s.size then 2 else if nameNo s = 0 then 5 else 0
def snR (s : ByteArray) : Int := if snC s = 0 then nameNo s else 0
def snV (s : ByteArray) : Value := .tuple #[.int .i64 (snR s), .int .i64 (snC s)]
theorem snV_bad (s : ByteArray) (c : Int) (h : snC s = c) (h0 : c ≠ 0) : snV s = .tuple #[.int .i64 0, .int .i64 c] := by simp [snV, snR, h, h0]
theorem snV_ok (s : ByteArray) (h : snC s = 0) : snV s = .tuple #[.int .i64 (nameNo s), .int .i64 0] := by simp [snV, snR, h]

set_option maxHeartbeats 1000000 in
theorem spec_SetNamed (s : ByteArray) (w : World) (hs : s.size ≤ 9223372036854775807) : Calls Try.prog 4 #[.string s] w fun e w' => e = .returned (snV s) ∧ Below w.heap.size w w' := by
  by_cases hb : 65536 < s.size
  · have HE := Lib.hid (snV_bad s 2 (by simp [snC, hb]) (by decide))
    have hb' : (65536 : Int) < (s.size : Int) := by omega
    go_enter Try.func4, Try.ntmps4
    go_wp2
    go_ret2
    exact ⟨ret_val HE.out.symm, Below.refl _ _⟩
  · have hb' : (s.size : Int) ≤ 65536 := by omega
    go_enter Try.func4, Try.ntmps4
    go_wp2
    go_loopw [4] (fun i wr => ∃ k f : Nat, k + f = 9 ∧ 1 ≤ k ∧ i = .int .i64 k ∧ Hid (nameNo s = firstNo (fun k => decide (setName k = s)) f (k : Int)) ∧ Below w.heap.size w wr) (fun i _ => 9 - (intOf i).toNat)
    case atStart => exact ⟨1, 8, rfl, by omega, rfl, Lib.hid rfl, Below.refl _ _⟩
    case round =>
      obtain ⟨k, f, hk, hk1, rfl, HR, b⟩ := hrel
      by_cases hlt : k ≤ 8
      · obtain ⟨f, rfl⟩ : ∃ f', f = f' + 1 := ⟨f - 1, by omega⟩
        go_wp2_with fail
        refine (spec_l02Set (k : Int) wr).mono ?_
        rintro e w1 ⟨g, rfl, hg, hblk, b1⟩
        clear hblk
        unfold setV
        have F0 := setField0
        have B1 : Below w.heap.size w w1 := b.trans (b1.mono b.size)
        by_cases he : setName (k : Int) = s
        · have HE := Lib.hid (snV_ok s (by
            have h2 : nameNo s = (k : Int) := by rw [HR.out]; simp [firstNo, he]
            simp [snC, hb, h2]; omega))
          have h2 : Hid (nameNo s = (k : Int)) := Lib.hid (by rw [HR.out]; simp [firstNo, he])
          rw [he]
          go_wp2
          go_ret2
          refine ⟨ret_val ?_, B1⟩
          rw [HE.out, h2.out]
          rfl
        · have h2 : ((setName (k : Int)).toList == s.toList) = false := str_ne' he
          have HX : Hid (nameNo s = firstNo (fun k => decide (setName k = s)) f ((k + 1 : Nat) : Int)) := Lib.hid (by rw [HR.out]; simp [firstNo, he])
          go_wp2
          go_roundw
          case rel => exact ⟨k + 1, f, by omega, by omega, by go_num, HX, B1⟩
          case measure => simp [intOf]; omega
      · have hf : f = 0 := by omega
        subst hf
        have HE := Lib.hid (snV_bad s 5 (by have h2 : nameNo s = 0 := by rw [HR.out]; rfl
                                            simp [snC, hb, h2]) (by decide))
        go_wp2
        go_ret2
        exact ⟨ret_val HE.out.symm, b⟩

end Go.Proofs.Ytdngpgllanhgdaa

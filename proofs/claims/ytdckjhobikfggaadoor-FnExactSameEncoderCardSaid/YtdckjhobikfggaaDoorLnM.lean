/- When an encoder is valid: plain functions. -/
import Derived.Test.YtdckjhobikfggaaDoorLnA
import Derived.Test.YtdckjhobikfggaaDoorTakeM
import Derived.Test.YtdckjhobikfggaaDoorEnM
import Derived.Test.YtdckjhobikfggaaDoorAllA
namespace Go.Proofs.YtdckjhobikfggaaDoor

theorem contC_short (s : ByteArray) : ∀ m p, contC s m p = 13 → s.size < p + m
  | 0, _, h => by simp [contC] at h
  | m + 1, p, h => by
    unfold contC at h
    split at h
    · split at h
      · have := contC_short s m (p + 1) h; omega
      · cases h
    · omega
theorem takeC_short {s : ByteArray} {k : Nat} (h : takeC s k = 13) : s.size ≤ k + 3 := by
  have hm := leadM_le (byteAt s k)
  unfold takeC at h
  split at h
  · cases h
  · split at h
    · split at h <;> cases h
    · have := contC_short s _ _ h
      unfold takeM at this
      omega

/-- What waits: nothing, or the beginning of a character. -/
def restE (r : ByteArray) : Bool := decide (r.size = 0) || decide (takeC r 0 = 13)
theorem restE_few {r : ByteArray} (h : restE r = true) : r.size ≤ 3 := by
  simp only [restE, Bool.or_eq_true, decide_eq_true_eq] at h
  rcases h with h | h
  · omega
  · have := takeC_short h; omega
/-- A character that may wait in a line. -/
def waitR (n r : Int) : Bool := canB n r && !(decide (r = 10) && prReset n)
def lineE (n : Int) (z : List Int) : Bool := decide (z.length ≤ 60) && (okAll z && z.all (waitR n))
def ecOK (e : Ec) : Bool :=
  proB e.n && (inB e.c e.z.length 1000000000 && (inB e.k 0 18 && (restE e.r && (lineE e.n e.z && ((!e.o || (decide (e.r.size = 0) && decide (e.z.length = 0))) && (decide (e.k = 0) || e.o))))))

theorem all_take {p : Int → Bool} {z : List Int} {k : Nat} (h : k < z.length) (h0 : (z.take k).all p = true) : (z.take (k + 1)).all p = p (z.getD k 0) := by
  rw [List.take_succ_eq_append_getElem h, List.all_append, h0, Bool.true_and]
  simp [List.getD, h]
theorem all_false {p : Int → Bool} {z : List Int} {k : Nat} (h : (z.take k).all p = false) : z.all p = false := by
  rw [← List.take_append_drop k z, List.all_append, h, Bool.false_and]
theorem lineE_long {n : Int} {z : List Int} (h : 60 < z.length) : lineE n z = false := by
  unfold lineE
  rw [decide_eq_false (by omega), Bool.false_and]
theorem lineE_short {n : Int} {z : List Int} (h : z.length ≤ 60) : lineE n z = (okAll z && z.all (waitR n)) := by
  unfold lineE
  rw [decide_eq_true h, Bool.true_and]

end Go.Proofs.YtdckjhobikfggaaDoor

/- Lists split behind each line end: plain functions. -/
import Derived.Test.YtdckjhobikfggaaAllA
namespace Go.Proofs.Ytdckjhobikfggaa

def stepL (p : List (List Int) × List Int) (r : Int) : List (List Int) × List Int := if r = 10 then (p.1 ++ [p.2 ++ [r]], []) else (p.1, p.2 ++ [r])
def runL (p : List (List Int) × List Int) (zs : List Int) : List (List Int) × List Int := zs.foldl stepL p
def endL (p : List (List Int) × List Int) : List (List Int) := if p.2 = [] then p.1 else p.1 ++ [p.2]
def linesZ (zs : List Int) : List (List Int) := if zs.length ≤ 4096 ∧ okAll zs = true then endL (runL ([], []) zs) else []
def linesC (zs : List Int) : Int := if zs.length ≤ 4096 then (if okAll zs = true then 0 else 4) else 2

theorem runL_take {p : List (List Int) × List Int} {zs : List Int} {k : Nat} (h : k < zs.length) : runL p (zs.take (k + 1)) = stepL (runL p (zs.take k)) (zs.getD k 0) := by
  unfold runL
  rw [List.take_succ_eq_append_getElem h, List.foldl_append]
  simp [List.getD, h]
/-- How many numbers stand in some lists. -/
def numL (L : List (List Int)) : Nat := (L.map List.length).sum
theorem numL_app (L : List (List Int)) (l : List Int) : numL (L ++ [l]) = numL L + l.length := by simp [numL]
theorem stepL_num (p : List (List Int) × List Int) (r : Int) : numL (stepL p r).1 + (stepL p r).2.length = numL p.1 + p.2.length + 1 := by
  unfold stepL
  split
  · simp only [numL_app, List.length_append, List.length_cons, List.length_nil]; omega
  · simp only [List.length_append, List.length_cons, List.length_nil]; omega
theorem stepL_cnt (p : List (List Int) × List Int) (r : Int) : (stepL p r).1.length + (stepL p r).2.length ≤ p.1.length + p.2.length + 1 := by
  unfold stepL
  split
  · simp only [List.length_append, List.length_cons, List.length_nil]; omega
  · simp only [List.length_append, List.length_cons, List.length_nil]; omega
theorem runL_num (zs : List Int) : ∀ p, numL (runL p zs).1 + (runL p zs).2.length = numL p.1 + p.2.length + zs.length := by
  induction zs with
  | nil => intro p; rfl
  | cons r t ih =>
    intro p
    show numL (runL (stepL p r) t).1 + (runL (stepL p r) t).2.length = _
    rw [ih, stepL_num, List.length_cons]; omega
theorem runL_cnt (zs : List Int) : ∀ p, (runL p zs).1.length + (runL p zs).2.length ≤ p.1.length + p.2.length + zs.length := by
  induction zs with
  | nil => intro p; exact Nat.le_refl _
  | cons r t ih =>
    intro p
    show (runL (stepL p r) t).1.length + (runL (stepL p r) t).2.length ≤ _
    have := ih (stepL p r)
    have := stepL_cnt p r
    rw [List.length_cons]; omega
theorem endL_num (p : List (List Int) × List Int) : numL (endL p) = numL p.1 + p.2.length := by
  unfold endL
  split
  · next h => rw [h]; rfl
  · exact numL_app _ _
theorem endL_cnt (p : List (List Int) × List Int) : (endL p).length ≤ p.1.length + p.2.length := by
  unfold endL
  split
  · omega
  · next h =>
    have : 0 < p.2.length := List.length_pos_iff.2 h
    simp; omega
theorem linesZ_num (zs : List Int) : numL (linesZ zs) ≤ 4096 ∧ (linesZ zs).length ≤ 4096 := by
  unfold linesZ
  split
  · next h =>
    have h1 := runL_num zs ([], [])
    have h2 := runL_cnt zs ([], [])
    have h3 := endL_num (runL ([], []) zs)
    have h4 := endL_cnt (runL ([], []) zs)
    have e : numL ([] : List (List Int)) = 0 := rfl
    simp only [List.length_nil, e] at h1 h2
    omega
  · exact ⟨Nat.zero_le _, Nat.zero_le _⟩
theorem numL_take (L : List (List Int)) (k : Nat) : numL (L.take k) ≤ numL L := by
  have h : numL (L.take k ++ L.drop k) = numL L := by rw [List.take_append_drop]
  have h2 : numL (L.take k ++ L.drop k) = numL (L.take k) + numL (L.drop k) := by unfold numL; rw [List.map_append, List.sum_append]
  omega
theorem numL_at (L : List (List Int)) (k : Nat) : (L.getD k []).length ≤ numL L := by
  by_cases h : k < L.length
  · have h1 := numL_take L (k + 1)
    rw [List.take_succ_eq_append_getElem h, numL_app] at h1
    simp [List.getD, h]
    omega
  · simp [List.getD, List.getElem?_eq_none (Nat.le_of_not_lt h)]

/-- The first line's length. -/
def cutL : List Int → Nat
  | [] => 0
  | r :: t => if r = 10 then 1 else cutL t + 1
theorem cutL_le (zs : List Int) : cutL zs ≤ zs.length := by
  induction zs with
  | nil => exact Nat.le_refl _
  | cons r t ih => unfold cutL; split <;> simp <;> omega
theorem cutL_pos {zs : List Int} (h : zs ≠ []) : 0 < cutL zs := by
  cases zs with
  | nil => exact absurd rfl h
  | cons r t => unfold cutL; split <;> omega
theorem runL_cut : ∀ (zs : List Int) (o : List (List Int)) (l : List Int), zs ≠ [] → endL (runL (o, l) zs) = endL (runL (o ++ [l ++ zs.take (cutL zs)], []) (zs.drop (cutL zs)))
  | [], _, _, h => absurd rfl h
  | r :: t, o, l, _ => by
    by_cases h : r = 10
    · have e : cutL (r :: t) = 1 := by simp [cutL, h]
      rw [e]
      show endL (runL (stepL (o, l) r) t) = endL (runL (o ++ [l ++ [r]], []) t)
      rw [stepL, if_pos h]
    · have e : cutL (r :: t) = cutL t + 1 := by simp [cutL, h]
      rw [e]
      show endL (runL (stepL (o, l) r) t) = endL (runL (o ++ [l ++ (r :: t.take (cutL t))], []) (t.drop (cutL t)))
      rw [stepL, if_neg h]
      cases t with
      | nil =>
        show endL (o, l ++ [r]) = endL (o ++ [l ++ [r]], [])
        unfold endL
        rw [if_neg (by simp), if_pos rfl]
      | cons q t =>
        rw [runL_cut (q :: t) o (l ++ [r]) (by simp), List.append_assoc]
        rfl
theorem cutL_none : ∀ (zs : List Int) (k : Nat), k ≤ zs.length → (∀ j, j < k → zs.getD j 0 ≠ 10) → k ≤ cutL zs
  | _, 0, _, _ => Nat.zero_le _
  | [], k + 1, h, _ => absurd h (by simp)
  | r :: t, k + 1, h, ha => by
    have hr : r ≠ 10 := ha 0 (by omega)
    have := cutL_none t k (by simpa using h) (fun j hj => ha (j + 1) (by omega))
    simp only [cutL, if_neg hr]; omega
theorem cutL_at : ∀ (zs : List Int) (k : Nat), k < zs.length → (∀ j, j < k → zs.getD j 0 ≠ 10) → zs.getD k 0 = 10 → cutL zs = k + 1
  | [], k, h, _, _ => absurd h (by simp)
  | r :: t, 0, _, _, h => by
    have : r = 10 := h
    simp [cutL, this]
  | r :: t, k + 1, h, ha, h1 => by
    have hr : r ≠ 10 := ha 0 (by omega)
    have := cutL_at t k (by simpa using h) (fun j hj => ha (j + 1) (by omega)) h1
    simp only [cutL, if_neg hr]; omega

end Go.Proofs.Ytdckjhobikfggaa

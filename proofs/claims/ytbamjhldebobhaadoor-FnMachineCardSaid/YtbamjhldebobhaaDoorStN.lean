/- Steps and runs of states as plain functions: no program in sight. -/
import Derived.Test.YtbamjhldebobhaaDoorStM
import Derived.Test.YtbamjhldebobhaaDoorSetsF
import Derived.Test.YtbamjhldebobhaaDoorTokD
namespace Go.Proofs.YtbamjhldebobhaaDoor
open Go.RowKit

/-- What a byte or a token does to a state: the state, the character (-1 of none), the code. -/
structure Stp where
  y : St
  r : Int
  c : Int
def gLast (x : St) (q a : Int) : Stp := if kindB (setKind q) a = true ∧ 0 ≤ runeS (setSpans q) a then ⟨⟨x.g0, x.g1, x.g2, x.g3, x.l, 0, 0⟩, runeS (setSpans q) a, 0⟩ else ⟨x, -1, 12⟩
def sideNo (r : Bool) : Int := if r = true then 128 else 0
/-- A byte of a coded set. -/
def graphic (x : St) (a : Int) (r : Bool) : Stp :=
  if stGet x (sideOf x r) = 0 then ⟨x, -1, 17⟩
  else if setKind (stGet x (sideOf x r)) = 3 then
    if 0 < x.d ∧ decide (128 < x.d) ≠ r then ⟨x, -1, 13⟩ else if inB a 33 126 = false then ⟨x, -1, 12⟩ else if x.d = 0 then ⟨⟨x.g0, x.g1, x.g2, x.g3, x.l, x.s, a + sideNo r⟩, -1, 0⟩
    else gLast x (stGet x (sideOf x r)) (a + (x.d - sideNo r) * 256)
  else gLast x (stGet x (sideOf x r)) a
/-- A token that is no byte of a set, while nothing is pending. -/
def calm (x : St) (t : Tok) : Stp :=
  if t.k = 1 then (if 127 < t.a then ⟨x, -1, 10⟩ else ⟨x, t.a, 0⟩)
  else if t.k = 2 then (if wideB x x.l = true then graphic x 32 false else ⟨x, 32, 0⟩)
  else if t.k = 5 then ⟨⟨x.g0, x.g1, x.g2, x.g3, t.a, x.s, x.d⟩, -1, 0⟩
  else if t.k = 6 then ⟨⟨x.g0, x.g1, x.g2, x.g3, x.l, t.a, x.d⟩, -1, 0⟩
  else if t.k = 7 then (if findNo t.b t.c = 0 then ⟨x, -1, 10⟩ else ⟨stPut x t.a (findNo t.b t.c), -1, 0⟩)
  else if t.k = 8 then ⟨x, -1, 13⟩ else ⟨x, -1, 10⟩
def stepT (x : St) (t : Tok) : Stp :=
  if t.k = 3 then graphic x t.a false
  else if t.k = 4 then graphic x t.a true
  else if pendB x = true then (if t.k = 2 ∧ x.d = 0 ∧ wideB x x.s = true then graphic x 32 false else ⟨x, -1, 13⟩)
  else calm x t

/-- With a code the state is as it was, and no character is told. -/
theorem gLast_code {x : St} {q a : Int} (h : (gLast x q a).c ≠ 0) : (gLast x q a).y = x ∧ (gLast x q a).r = -1 := by
  unfold gLast at h ⊢
  split at h
  · exact absurd rfl h
  · next h1 => rw [if_neg h1]; exact ⟨rfl, rfl⟩
theorem graphic_code {x : St} {a : Int} {r : Bool} (h : (graphic x a r).c ≠ 0) : (graphic x a r).y = x ∧ (graphic x a r).r = -1 := by
  unfold graphic at h ⊢
  repeat' split
  all_goals first | exact ⟨rfl, rfl⟩ | skip
  · next h1 h2 h3 h4 h5 => rw [if_neg h1, if_pos h2, if_neg h3, if_neg h4, if_pos h5] at h; exact absurd rfl h
  · next h1 h2 h3 h4 h5 => rw [if_neg h1, if_pos h2, if_neg h3, if_neg h4, if_neg h5] at h; exact gLast_code h
  · next h1 h2 => rw [if_neg h1, if_neg h2] at h; exact gLast_code h
theorem calm_code {x : St} {t : Tok} (h : (calm x t).c ≠ 0) : (calm x t).y = x ∧ (calm x t).r = -1 := by
  unfold calm at h ⊢
  split at h <;> rename_i h1
  · rw [if_pos h1]; split at h <;> rename_i h2
    · rw [if_pos h2]; exact ⟨rfl, rfl⟩
    · exact absurd rfl h
  rw [if_neg h1]
  split at h <;> rename_i h1
  · rw [if_pos h1]; split at h <;> rename_i h2
    · rw [if_pos h2]; exact graphic_code h
    · exact absurd rfl h
  rw [if_neg h1]
  split at h <;> rename_i h1
  · exact absurd rfl h
  rw [if_neg h1]
  split at h <;> rename_i h1
  · exact absurd rfl h
  rw [if_neg h1]
  split at h <;> rename_i h1
  · rw [if_pos h1]; split at h <;> rename_i h2
    · rw [if_pos h2]; exact ⟨rfl, rfl⟩
    · exact absurd rfl h
  rw [if_neg h1]
  split <;> exact ⟨rfl, rfl⟩
theorem stepT_code {x : St} {t : Tok} (h : (stepT x t).c ≠ 0) : (stepT x t).y = x ∧ (stepT x t).r = -1 := by
  unfold stepT at h ⊢
  split at h <;> rename_i h1
  · rw [if_pos h1]; exact graphic_code h
  rw [if_neg h1]
  split at h <;> rename_i h1
  · rw [if_pos h1]; exact graphic_code h
  rw [if_neg h1]
  split at h <;> rename_i h1
  · rw [if_pos h1]; split at h <;> rename_i h2
    · rw [if_pos h2]; exact graphic_code h
    · rw [if_neg h2]; exact ⟨rfl, rfl⟩
  · rw [if_neg h1]; exact calm_code h

/-- A character that is told is not negative; -1 says none. -/
theorem gLast_r (x : St) (q a : Int) : (gLast x q a).r = -1 ∨ 0 ≤ (gLast x q a).r := by
  unfold gLast
  split
  · next h => exact .inr h.2
  · exact .inl rfl
theorem graphic_r (x : St) (a : Int) (r : Bool) : (graphic x a r).r = -1 ∨ 0 ≤ (graphic x a r).r := by
  unfold graphic
  repeat' split
  all_goals first | exact .inl rfl | exact gLast_r _ _ _
theorem stepT_r {x : St} {t : Tok} (ht : tokLP t) : (stepT x t).r = -1 ∨ 0 ≤ (stepT x t).r := by
  unfold stepT calm
  repeat' split
  all_goals first | exact .inl rfl | exact graphic_r _ _ _ | skip
  · next h1 h2 => dsimp only; unfold tokLP at ht; omega
  · exact .inr (show (0 : Int) ≤ 32 by decide)

/-- Valid states, told apart. -/
theorem inB_of {n lo hi : Int} (h0 : lo ≤ n) (h1 : n ≤ hi) : inB n lo hi = true := by simp [inB, h0, h1]
theorem stOK_parts {x : St} (h : stOKB x = true) : regsOK x = true ∧ headOK x = true ∧ leadOK x = true := by
  unfold stOKB at h
  rw [Bool.and_eq_true, Bool.and_eq_true] at h
  exact h
theorem stOK_mk {x : St} (h1 : regsOK x = true) (h2 : headOK x = true) (h3 : leadOK x = true) : stOKB x = true := by
  unfold stOKB; rw [h1, h2, h3]; rfl
theorem head_parts {x : St} (h : headOK x = true) : (0 ≤ x.l ∧ x.l ≤ 3) ∧ (x.s = 0 ∨ x.s = 2 ∨ x.s = 3) := by
  unfold headOK at h
  rw [Bool.and_eq_true, Bool.or_eq_true, decide_eq_true_eq] at h
  refine ⟨inB_true h.1, ?_⟩
  rcases h.2 with h2 | h2
  · exact .inl h2
  · have := inB_true h2; omega
theorem lead_range {x : St} (h : leadOK x = true) : 0 ≤ x.d ∧ x.d ≤ 254 := by
  unfold leadOK at h
  rw [Bool.or_eq_true, decide_eq_true_eq, Bool.and_eq_true, Bool.and_eq_true] at h
  rcases h with h | ⟨_, h, _⟩
  · omega
  · have := inB_true h; omega
theorem calm_parts {x : St} (h : stOKB x = true) (hp : pendB x = false) : x.s = 0 ∧ x.d = 0 := by
  obtain ⟨_, h2, h3⟩ := stOK_parts h
  have a := (head_parts h2).2
  have b := lead_range h3
  unfold pendB at hp
  rw [Bool.or_eq_false_iff, decide_eq_false_iff_not, decide_eq_false_iff_not] at hp
  omega
theorem regs_same {x y : St} (h0 : y.g0 = x.g0) (h1 : y.g1 = x.g1) (h2 : y.g2 = x.g2) (h3 : y.g3 = x.g3) : regsOK y = regsOK x := by
  unfold regsOK regOK stGet
  rw [h0, h1, h2, h3]

theorem gLast_ok {x : St} {q a : Int} (h : stOKB x = true) : stOKB (gLast x q a).y = true := by
  unfold gLast
  split
  · obtain ⟨h1, h2, _⟩ := stOK_parts h
    refine stOK_mk ((regs_same (x := x) rfl rfl rfl rfl).trans h1) ?_ rfl
    have := (head_parts h2).1
    show (inB x.l 0 3 && _) = true
    rw [inB_of this.1 this.2]; rfl
  · exact h
theorem graphic_ok {x : St} {a : Int} {r : Bool} (h : stOKB x = true) : stOKB (graphic x a r).y = true := by
  unfold graphic
  split
  · exact h
  split
  · next h1 h2 =>
    split
    · exact h
    split
    · exact h
    split
    · next h3 h4 h5 =>
      obtain ⟨q1, q2, q3⟩ := stOK_parts h
      refine stOK_mk ((regs_same (x := x) rfl rfl rfl rfl).trans q1) q2 ?_
      have ha : 33 ≤ a ∧ a ≤ 126 := inB_true (by cases hb : inB a 33 126; exact absurd hb h4; rfl)
      have hs : ∀ b, sideOf ⟨x.g0, x.g1, x.g2, x.g3, x.l, x.s, a + sideNo r⟩ b = sideOf x b := fun _ => rfl
      have hg : ∀ n, stGet ⟨x.g0, x.g1, x.g2, x.g3, x.l, x.s, a + sideNo r⟩ n = stGet x n := fun _ => rfl
      have hd : decide (128 < a + sideNo r) = r := by
        cases r
        · simp [sideNo]; omega
        · simp [sideNo]; omega
      have hm : inB ((a + sideNo r).tmod 128) 33 126 = true := by
        cases r
        · simp only [sideNo]; rw [Int.tmod_eq_emod_of_nonneg (by simp; omega)]; exact inB_of (by simp; omega) (by simp; omega)
        · simp only [sideNo]; rw [Int.tmod_eq_emod_of_nonneg (by simp; omega)]; exact inB_of (by simp; omega) (by simp; omega)
      have hn : inB (a + sideNo r) 33 254 = true := by
        cases r
        · exact inB_of (by simp [sideNo]; omega) (by simp [sideNo]; omega)
        · exact inB_of (by simp [sideNo]; omega) (by simp [sideNo]; omega)
      have hpos : 0 < stGet x (sideOf x r) := by
        have hq : 0 ≤ stGet x (sideOf x r) := by
          unfold regsOK regOK at q1
          simp only [Bool.and_eq_true] at q1
          obtain ⟨⟨a0, _⟩, ⟨a1, _⟩, ⟨a2, _⟩, ⟨a3, _⟩⟩ := q1
          have b0 := (inB_true a0).1
          have b1 := (inB_true a1).1
          have b2 := (inB_true a2).1
          have b3 := (inB_true a3).1
          unfold stGet at b0 b1 b2 b3 ⊢
          simp at b0 b1 b2 b3
          repeat' split
          all_goals assumption
        omega
      unfold leadOK
      rw [hs, hg]
      show (_ || (inB ((a + sideNo r).tmod 128) 33 126 && (inB (a + sideNo r) 33 254 && (decide (0 < stGet x (sideOf x (decide (128 < a + sideNo r)))) && decide (setKind (stGet x (sideOf x (decide (128 < a + sideNo r)))) = 3))))) = true
      rw [hd, hm, hn, h2, decide_eq_true hpos]
      simp
    · exact gLast_ok h
  · exact gLast_ok h

theorem findNo_in {b c : Int} (h : findNo b c ≠ 0) : 1 ≤ findNo b c ∧ findNo b c ≤ 8 ∧ setKind (findNo b c) = b := by
  rcases firstNo_le (fun k => decide (setKind k = b) && decide (setFinal k = c)) 8 1 (by decide) with h1 | ⟨h1, h2, h3⟩
  · exact absurd h1 h
  · rw [Bool.and_eq_true, decide_eq_true_eq] at h3
    refine ⟨h1, ?_, h3.1⟩
    show firstNo _ 8 1 ≤ 8
    have : firstNo (fun k => decide (setKind k = b) && decide (setFinal k = c)) 8 1 < 1 + 8 := h2
    omega
theorem put_ok {x : St} {g v : Int} (h : regsOK x = true) (hv0 : 1 ≤ v) (hv : v ≤ 8) (hg : g = 0 → setKind v ≠ 2) : regsOK (stPut x g v) = true := by
  have e1 : inB v 0 8 = true := inB_of (by omega) hv
  have e2 : v ≠ 0 := by omega
  unfold regsOK regOK stPut at *
  by_cases g0 : g = 0
  · have := hg g0
    simp_all [stGet]
  by_cases g1 : g = 1
  · simp_all [stGet]
  by_cases g2 : g = 2
  · simp_all [stGet]
  · simp_all [stGet]
theorem put_head (x : St) (g v : Int) : (stPut x g v).l = x.l ∧ (stPut x g v).s = x.s ∧ (stPut x g v).d = x.d := by
  unfold stPut
  repeat' split
  all_goals exact ⟨rfl, rfl, rfl⟩
theorem head_same {x y : St} (h0 : y.l = x.l) (h1 : y.s = x.s) : headOK y = headOK x := by
  unfold headOK; rw [h0, h1]
theorem lead_zero {x : St} (h : x.d = 0) : leadOK x = true := by unfold leadOK; simp [h]
theorem calm_ok {x : St} {t : Tok} (h : stOKB x = true) (hp : pendB x = false) (ht : tokLP t) : stOKB (calm x t).y = true := by
  obtain ⟨q1, q2, q3⟩ := stOK_parts h
  have ⟨s0, d0⟩ := calm_parts h hp
  have ⟨hl, _⟩ := head_parts q2
  unfold calm
  split
  · split <;> exact h
  split
  · split
    · exact graphic_ok h
    · exact h
  split
  · next h1 =>
    have ha : 0 ≤ t.a ∧ t.a ≤ 3 := by unfold tokLP at ht; omega
    refine stOK_mk ((regs_same (x := x) rfl rfl rfl rfl).trans q1) ?_ (lead_zero d0)
    show (inB t.a 0 3 && (decide (x.s = 0) || inB x.s 2 3)) = true
    rw [inB_of ha.1 ha.2, s0]; rfl
  split
  · next h1 =>
    have ha : 2 ≤ t.a ∧ t.a ≤ 3 := by unfold tokLP at ht; omega
    refine stOK_mk ((regs_same (x := x) rfl rfl rfl rfl).trans q1) ?_ (lead_zero d0)
    show (inB x.l 0 3 && (decide (t.a = 0) || inB t.a 2 3)) = true
    rw [inB_of hl.1 hl.2, inB_of ha.1 ha.2]; simp
  split
  · next h1 =>
    split
    · exact h
    · next h2 =>
      obtain ⟨f1, f2, f3⟩ := findNo_in h2
      obtain ⟨p1, p2, p3⟩ := put_head x t.a (findNo t.b t.c)
      refine stOK_mk (put_ok q1 f1 f2 ?_) ((head_same p1 p2).trans q2) (lead_zero (p3.trans d0))
      intro ha
      rw [f3]
      unfold tokLP at ht
      omega
  split <;> exact h
theorem stepT_ok {x : St} {t : Tok} (h : stOKB x = true) (ht : tokLP t) : stOKB (stepT x t).y = true := by
  unfold stepT
  split
  · exact graphic_ok h
  split
  · exact graphic_ok h
  split
  · split
    · exact graphic_ok h
    · exact h
  · next h1 => exact calm_ok h (by simpa using h1) ht

/-- Valid tokens, kind by kind. -/
theorem okP1 {a p : Int} (h0 : 0 ≤ p) (h1 : p ≤ 1048576) (h : (0 ≤ a ∧ a ≤ 13) ∨ (16 ≤ a ∧ a ≤ 31 ∧ a ≠ 27) ∨ a = 127 ∨ (128 ≤ a ∧ a ≤ 159 ∧ a ≠ 142 ∧ a ≠ 143)) : tokLP ⟨1, a, 0, 0, p, 1⟩ :=
  ⟨⟨h0, h1, (by decide : (1 : Int) ≤ 1), (by decide : (1 : Int) ≤ 1048576)⟩, .inl ⟨rfl, rfl, rfl, rfl, h⟩⟩
theorem okP2 {p : Int} (h0 : 0 ≤ p) (h1 : p ≤ 1048576) : tokLP ⟨2, 0, 0, 0, p, 1⟩ :=
  ⟨⟨h0, h1, (by decide : (1 : Int) ≤ 1), (by decide : (1 : Int) ≤ 1048576)⟩, .inr (.inl ⟨rfl, rfl, rfl, rfl, rfl⟩)⟩
theorem okP3 {a p : Int} (h0 : 0 ≤ p) (h1 : p ≤ 1048576) (a0 : 33 ≤ a) (a1 : a ≤ 126) : tokLP ⟨3, a, 0, 0, p, 1⟩ :=
  ⟨⟨h0, h1, (by decide : (1 : Int) ≤ 1), (by decide : (1 : Int) ≤ 1048576)⟩, .inr (.inr (.inl ⟨rfl, rfl, rfl, a0, a1, rfl⟩))⟩
theorem okP4 {a p : Int} (h0 : 0 ≤ p) (h1 : p ≤ 1048576) (a0 : 32 ≤ a) (a1 : a ≤ 127) : tokLP ⟨4, a, 0, 0, p, 1⟩ :=
  ⟨⟨h0, h1, (by decide : (1 : Int) ≤ 1), (by decide : (1 : Int) ≤ 1048576)⟩, .inr (.inr (.inr (.inl ⟨rfl, rfl, rfl, a0, a1, rfl⟩)))⟩
theorem okP5 {a p n : Int} (h0 : 0 ≤ p) (h1 : p ≤ 1048576) (h : (0 ≤ a ∧ a ≤ 1 ∧ n = 1) ∨ (2 ≤ a ∧ a ≤ 3 ∧ n = 2)) : tokLP ⟨5, a, 0, 0, p, n⟩ :=
  ⟨⟨h0, h1, (by omega : 1 ≤ n), (by omega : n ≤ 1048576)⟩, .inr (.inr (.inr (.inr (.inl ⟨rfl, rfl, rfl, h⟩))))⟩
theorem okP6 {a p n : Int} (h0 : 0 ≤ p) (h1 : p ≤ 1048576) (a0 : 2 ≤ a) (a1 : a ≤ 3) (n0 : 1 ≤ n) (n1 : n ≤ 2) : tokLP ⟨6, a, 0, 0, p, n⟩ :=
  ⟨⟨h0, h1, n0, (by omega : n ≤ 1048576)⟩, .inr (.inr (.inr (.inr (.inr (.inl ⟨rfl, rfl, rfl, a0, a1, n0, n1⟩)))))⟩
theorem okP7 {a b c p n : Int} (h0 : 0 ≤ p) (h1 : p ≤ 1048576) (a0 : 0 ≤ a) (a1 : a ≤ 3) (b0 : 1 ≤ b) (b1 : b ≤ 3) (hb : b ≠ 2 ∨ 0 < a) (c0 : 64 ≤ c) (c1 : c ≤ 126) (n0 : 3 ≤ n) (n1 : n ≤ 4) : tokLP ⟨7, a, b, c, p, n⟩ :=
  ⟨⟨h0, h1, (by omega : 1 ≤ n), (by omega : n ≤ 1048576)⟩, .inr (.inr (.inr (.inr (.inr (.inr (.inl ⟨rfl, a0, a1, b0, b1, hb, c0, c1, n0, n1⟩))))))⟩
theorem okP8 {p n : Int} (h0 : 0 ≤ p) (h1 : p ≤ 1048576) (n0 : 1 ≤ n) (n1 : n ≤ 1048576) : tokLP ⟨8, 0, 0, 0, p, n⟩ :=
  ⟨⟨h0, h1, n0, n1⟩, .inr (.inr (.inr (.inr (.inr (.inr (.inr ⟨.inl rfl, rfl, rfl, rfl⟩))))))⟩
theorem okP9 {p n : Int} (h0 : 0 ≤ p) (h1 : p ≤ 1048576) (n0 : 1 ≤ n) (n1 : n ≤ 1048576) : tokLP ⟨9, 0, 0, 0, p, n⟩ :=
  ⟨⟨h0, h1, n0, n1⟩, .inr (.inr (.inr (.inr (.inr (.inr (.inr ⟨.inr rfl, rfl, rfl, rfl⟩))))))⟩
/-- The tokens of a string are valid. -/
theorem mids_size {s : ByteArray} (h : 0 ≤ midNo s) : s.size = 1 ∨ s.size = 2 := by
  have key : ∀ (l : List ByteArray) (k : Int), placeOf s l k = -1 ∨ s ∈ l := by
    intro l
    induction l with
    | nil => intro k; exact .inl rfl
    | cons t r ih =>
      intro k
      unfold placeOf
      split
      · next h => exact .inr (by simp [h])
      · rcases ih (k + 1) with h | h
        · exact .inl h
        · exact .inr (List.mem_cons_of_mem _ h)
  rcases key mids 0 with h1 | h1
  · unfold midNo at h; omega
  · simp only [mids, List.mem_cons, List.not_mem_nil, or_false] at h1
    rcases h1 with rfl | rfl | rfl | rfl | rfl | rfl | rfl | rfl | rfl | rfl | rfl | rfl <;> first | exact .inl rfl | exact .inr rfl
theorem midG_parts {s : ByteArray} (h : ¬ midG s < 0) : 0 ≤ midG s ∧ midG s ≤ 3 ∧ 1 ≤ midK s ∧ midK s ≤ 3 ∧ (midK s ≠ 2 ∨ 0 < midG s) ∧ 0 ≤ midNo s := by
  have hr := midNo_range s
  unfold midG at h ⊢
  unfold midK
  generalize midNo s = m at *
  repeat' split at h
  all_goals first | omega | skip
  all_goals
    repeat' split
    all_goals omega
theorem plainTok_ok {mid : ByteArray} {f p n : Int} (hp : 0 ≤ p) (hp1 : p ≤ 1048576) (hn : n = mid.size + 2) (hn1 : n ≤ 1048576) (hf0 : 48 ≤ f) (hf1 : f ≤ 126) : tokLP (plainTok mid f p n) := by
  have hs : 0 ≤ (mid.size : Int) := Int.natCast_nonneg _
  unfold plainTok
  split
  · next h1 =>
    have hz : (mid.size : Int) = 0 := by rw [h1]; rfl
    split
    · exact okP6 hp hp1 (by omega) (by omega) (by omega) (by omega)
    split
    · exact okP5 hp hp1 (.inr (by omega))
    · exact okP9 hp hp1 (by omega) hn1
  · split
    · exact okP9 hp hp1 (by omega) hn1
    · next h1 h2 =>
      have ⟨g1, g2, g3, g4, g5, g6⟩ := midG_parts (fun h => h2 (.inl h))
      have hf : ¬ f < 64 := fun h => h2 (.inr (.inl h))
      have hz := mids_size g6
      exact okP7 hp hp1 g1 g2 g3 g4 g5 (by omega) hf1 (by omega) (by omega)
theorem escTok_ok (s : ByteArray) (k : Nat) (hk : k < s.size) (hs : s.size ≤ 1048576) : ∀ f i, k < i → i ≤ s.size → tokLP (escTok s k f i)
  | 0, i, h1, h2 => okP8 (by omega) (by omega) (by omega) (by omega)
  | f + 1, i, h1, h2 => by
    unfold escTok
    split
    · split
      · split
        · exact okP9 (by omega) (by omega) (by omega) (by omega)
        · exact escTok_ok s k hk hs f (i + 1) (by omega) (by omega)
      · split
        · next h3 h4 h5 =>
          have ⟨b0, b1⟩ := inB_true h5
          have hz : (s.extract (k + 1) i).size = i - (k + 1) := by rw [ByteArray.size_extract]; omega
          exact plainTok_ok (by omega) (by omega) (by rw [hz]; omega) (by omega) b0 b1
        · exact okP9 (by omega) (by omega) (by omega) (by omega)
    · exact okP8 (by omega) (by omega) (by omega) (by omega)
theorem byteAt_range' (s : ByteArray) (k : Nat) : 0 ≤ byteAt s k ∧ byteAt s k ≤ 255 := by
  unfold byteAt
  have := (s.data.toList.getD k 0).toNat_lt
  omega
theorem nextTok_ok (s : ByteArray) (k : Nat) (hk : k < s.size) (hs : s.size ≤ 1048576) : tokLP (nextTok s k) := by
  have hb := byteAt_range' s k
  have h0 : (0 : Int) ≤ (k : Int) := by omega
  have h1 : (k : Int) ≤ 1048576 := by omega
  unfold nextTok
  generalize byteAt s k = v at *
  split
  · exact escTok_ok s k hk hs _ _ (by omega) (by omega)
  split
  · exact okP5 h0 h1 (.inl (by omega))
  split
  · exact okP6 h0 h1 (by omega) (by omega) (by omega) (by omega)
  split
  · exact okP2 h0 h1
  split
  · next h => have := inB_true h; exact okP3 h0 h1 this.1 this.2
  next h =>
  have hn : ¬ (33 ≤ v ∧ v ≤ 126) := fun q => h (inB_of q.1 q.2)
  split
  · exact okP4 h0 h1 (by omega) (by omega)
  · exact okP1 h0 h1 (by omega)

/-- A run: the state, the characters, the offset, the code. -/
structure Rn where
  y : St
  z : List Int
  p : Int
  c : Int
def addR (z : List Int) (r : Int) : List Int := if 0 ≤ r then z ++ [r] else z
def runT (s : ByteArray) : Nat → Nat → St → List Int → Rn
  | 0, _, x, z => ⟨x, z, s.size, 0⟩
  | f + 1, k, x, z => if k < s.size then (if (stepT x (nextTok s k)).c = 0 then runT s f (k + (nextTok s k).n.toNat) (stepT x (nextTok s k)).y (addR z (stepT x (nextTok s k)).r) else ⟨x, z, k, (stepT x (nextTok s k)).c⟩) else ⟨x, z, s.size, 0⟩
/-- RunState. -/
def rsR (x : St) (s : ByteArray) : Rn := if 65536 < s.size then ⟨zeroSt, [], 0, 2⟩ else if stOKB x = true then runT s s.size 0 x [] else ⟨zeroSt, [], 0, 1⟩
/-- StepState: the state, the character, whether there is one, the code. -/
def ssP (x : St) (t : Tok) : Stp := if stOKB x = true ∧ tokOKB t = true then stepT x t else ⟨zeroSt, -1, 1⟩

end Go.Proofs.YtbamjhldebobhaaDoor

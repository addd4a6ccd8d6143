/- States in which characters are written: moves lead from such a state to such a state; there are few of them; moves and forms are short. No program in sight. -/
import Derived.Test.YtibadnfagoehmaaDoorEnT
import Derived.Test.YtibadnfagoehmaaDoorStN
namespace Go.Proofs.YtibadnfagoehmaaDoor

theorem calm_mk {x : St} (h1 : regsOK x = true) (hl : x.l = 0 ∨ x.l = 1) (hs : x.s = 0) (hd : x.d = 0) : calmB x = true := by
  have h2 : headOK x = true := by
    unfold headOK inB
    rcases hl with h | h <;> simp [h, hs]
  have h3 : pendB x = false := by simp [pendB, hs, hd]
  have h4 : x.l ≤ 1 := by omega
  simp [calmB, stOK_mk h1 h2 (lead_zero hd), h3, h4]
theorem calm_un {x : St} (h : calmB x = true) : regsOK x = true ∧ (x.l = 0 ∨ x.l = 1) ∧ x.s = 0 ∧ x.d = 0 := by
  simp only [calmB, Bool.and_eq_true, Bool.not_eq_true', decide_eq_true_eq] at h
  obtain ⟨h1, h2, h3⟩ := h
  have ⟨p1, p2, _⟩ := stOK_parts h1
  have ⟨q1, q2⟩ := calm_parts h1 h2
  have ⟨r1, _⟩ := head_parts p2
  exact ⟨p1, by omega, q1, q2⟩
theorem calm_ok' {x : St} (h : calmB x = true) : stOKB x = true ∧ pendB x = false := by
  simp only [calmB, Bool.and_eq_true, Bool.not_eq_true', decide_eq_true_eq] at h
  exact ⟨h.1, h.2.1⟩
theorem reg_range {x : St} {n : Int} (h : regOK x n = true) : 0 ≤ stGet x n ∧ stGet x n ≤ 8 := by
  simp only [regOK, Bool.and_eq_true] at h
  exact inB_true h.1
theorem calm_range {x : St} (h : calmB x = true) : (0 ≤ x.g0 ∧ x.g0 ≤ 8) ∧ (0 ≤ x.g1 ∧ x.g1 ≤ 8) ∧ (0 ≤ x.g2 ∧ x.g2 ≤ 8) ∧ 0 ≤ x.g3 ∧ x.g3 ≤ 8 := by
  have h1 := (calm_un h).1
  simp only [regsOK, Bool.and_eq_true] at h1
  obtain ⟨a, b, c, d⟩ := h1
  exact ⟨reg_range a, reg_range b, reg_range c, reg_range d⟩

theorem sets_in (n : Int) : (∀ q ∈ prSet0 n, 1 ≤ q ∧ q ≤ 8 ∧ setKind q ≠ 2) ∧ (∀ q ∈ prSet1 n, 1 ≤ q ∧ q ≤ 8) ∧ ∀ q ∈ prSet2 n, 1 ≤ q ∧ q ≤ 8 := by
  refine ⟨?_, ?_, ?_⟩
  · unfold prSet0
    repeat' split
    all_goals (intro q hq; simp only [List.mem_cons, List.not_mem_nil, or_false] at hq; rcases hq with rfl | rfl | rfl | rfl | rfl <;> decide)
  · unfold prSet1
    repeat' split
    all_goals (intro q hq; first | (cases hq; done) | (simp only [List.mem_cons, List.not_mem_nil, or_false] at hq; rcases hq with rfl | rfl | rfl | rfl | rfl | rfl <;> decide))
  · unfold prSet2
    repeat' split
    all_goals (intro q hq; first | (cases hq; done) | (simp only [List.mem_cons, List.not_mem_nil, or_false] at hq; rcases hq with rfl | rfl <;> decide))
theorem put_calm {x : St} {g q : Int} (h : calmB x = true) (h1 : 1 ≤ q) (h8 : q ≤ 8) (hg : g = 0 → setKind q ≠ 2) : calmB (stPut x g q) = true := by
  have ⟨a, b, c, d⟩ := calm_un h
  have ⟨e1, e2, e3⟩ := put_head x g q
  exact calm_mk (put_ok a h1 h8 hg) (by rw [e1]; exact b) (by rw [e2]; exact c) (by rw [e3]; exact d)
theorem left_calm {x : St} {l : Int} (h : calmB x = true) (hl : l = 0 ∨ l = 1) : calmB (leftTo x l) = true := by
  have ⟨a, b, c, d⟩ := calm_un h
  exact calm_mk (by rw [regs_same (x := x) (y := leftTo x l) rfl rfl rfl rfl]; exact a) hl c d
theorem par94_size (g : Nat) (h : g < 4) : (par94.extract g (g + 1)).size = 1 := par94_ex g h
theorem esc_size (g : Nat) (kd fi : Int) (hg : g < 4) : 1 ≤ (escB g kd fi).size ∧ (escB g kd fi).size ≤ 4 := by
  have h27 : (bs [27]).size = 1 := rfl
  have hfi : (bs [fi]).size = 1 := rfl
  have h36 : (⟨#[36]⟩ : ByteArray).size = 1 := rfl
  unfold escB
  repeat' split
  all_goals simp only [ByteArray.size_append, h27, hfi, h36, par94_ex g hg, par96_ex g hg]
  all_goals omega
theorem movesG_in {x : St} {g : Nat} {qs : List Int} {m : Mv} (h : m ∈ movesG x g qs) : ∃ q ∈ qs, m = (escB g (setKind q) (setFinal q), stPut x g q) := by
  unfold movesG at h
  obtain ⟨q, hq, rfl⟩ := List.mem_map.1 h
  exact ⟨q, (List.mem_filter.1 hq).1, rfl⟩
theorem move_in {n : Int} {x : St} {m : Mv} (h : m ∈ movesP n x) : m ∈ movesG x 0 (prSet0 n) ∨ m ∈ movesG x 1 (prSet1 n) ∨ m ∈ movesG x 2 (prSet2 n) ∨ m ∈ shiftMv n x := by
  unfold movesP at h
  simp only [List.mem_append] at h
  rcases h with ((h | h) | h) | h
  · exact .inl h
  · exact .inr (.inl h)
  · exact .inr (.inr (.inl h))
  · exact .inr (.inr (.inr h))
theorem shift_in {n : Int} {x : St} {m : Mv} (h : m ∈ shiftMv n x) : m.1.size = 1 ∧ (m.2 = leftTo x 0 ∨ m.2 = leftTo x 1) := by
  unfold shiftMv at h
  repeat' split at h
  all_goals simp at h
  · subst h; exact ⟨rfl, .inr rfl⟩
  · subst h; exact ⟨rfl, .inl rfl⟩
theorem move_calm {n : Int} {x : St} {m : Mv} (hx : calmB x = true) (h : m ∈ movesP n x) : calmB m.2 = true := by
  have ⟨s0, s1, s2⟩ := sets_in n
  rcases move_in h with h | h | h | h
  · obtain ⟨q, hq, rfl⟩ := movesG_in h
    have ⟨a, b, c⟩ := s0 q hq
    exact put_calm hx a b fun _ => c
  · obtain ⟨q, hq, rfl⟩ := movesG_in h
    have ⟨a, b⟩ := s1 q hq
    exact put_calm hx a b fun h => absurd h (by decide)
  · obtain ⟨q, hq, rfl⟩ := movesG_in h
    have ⟨a, b⟩ := s2 q hq
    exact put_calm hx a b fun h => absurd h (by decide)
  · rcases (shift_in h).2 with h | h <;> rw [h]
    · exact left_calm hx (.inl rfl)
    · exact left_calm hx (.inr rfl)
theorem move_size {n : Int} {x : St} {m : Mv} (h : m ∈ movesP n x) : 1 ≤ m.1.size ∧ m.1.size ≤ 4 := by
  rcases move_in h with h | h | h | h
  · obtain ⟨q, hq, rfl⟩ := movesG_in h; exact esc_size 0 _ _ (by decide)
  · obtain ⟨q, hq, rfl⟩ := movesG_in h; exact esc_size 1 _ _ (by decide)
  · obtain ⟨q, hq, rfl⟩ := movesG_in h; exact esc_size 2 _ _ (by decide)
  · have := (shift_in h).1; omega
theorem sets_few (n : Int) : (prSet0 n).length ≤ 6 ∧ (prSet1 n).length ≤ 6 ∧ (prSet2 n).length ≤ 6 := by
  refine ⟨?_, ?_, ?_⟩
  · unfold prSet0; repeat' split
    all_goals simp
  · unfold prSet1; repeat' split
    all_goals simp
  · unfold prSet2; repeat' split
    all_goals simp
theorem moves_few (n : Int) (x : St) : (movesP n x).length ≤ 19 := by
  have ⟨a, b, c⟩ := sets_few n
  have h : ∀ g qs, (movesG x g qs).length ≤ qs.length := fun g qs => by
    unfold movesG; rw [List.length_map]; exact List.length_filter_le _ _
  have h0 := h 0 (prSet0 n)
  have h1 := h 1 (prSet1 n)
  have h2 := h 2 (prSet2 n)
  have h3 : (shiftMv n x).length ≤ 1 := by unfold shiftMv; repeat' split
                                           all_goals simp
  unfold movesP
  simp only [List.length_append]
  omega
theorem startP_calm (n : Int) : calmB (startP n) = true := by
  unfold startP
  split <;> decide +kernel
theorem headX_calm (n : Int) : calmB (headX n) = true := by
  unfold headX
  split
  · decide +kernel
  · exact startP_calm n
theorem line_calm {n : Int} {x : St} (h : calmB x = true) : calmB (lineX n x) = true := by
  unfold lineX
  split
  · exact startP_calm n
  · exact h
theorem behind_calm {n r : Int} {x : St} (h : calmB x = true) : calmB (behindR n r x) = true := by
  unfold behindR
  split
  · exact line_calm h
  · exact h
theorem bs_size (ns : List Int) : (bs ns).size = ns.length := by simp [bs, ByteArray.size]
theorem code_size (c side : Int) : 1 ≤ (codeT c side).size ∧ (codeT c side).size ≤ 2 := by
  unfold codeT
  split <;> simp [bs_size]
theorem form_in {n r : Int} {x : St} {f : ByteArray} (h : f ∈ formsP n x r) : 1 ≤ f.size ∧ f.size ≤ 4 := by
  unfold formsP at h
  split at h
  · unfold ownF at h
    split at h
    · simp only [List.mem_singleton] at h
      subst h
      simp [bs_size]
    · simp at h
  · simp only [List.mem_append] at h
    rcases h with (h | h) | h
    · unfold formL at h
      split at h
      · simp only [List.mem_singleton] at h
        subst h
        have := code_size (codeOf (stGet x x.l) r) 0
        omega
      · simp at h
    · unfold formR at h
      split at h
      · simp only [List.mem_singleton] at h
        subst h
        have := code_size (codeOf x.g1 r) 128
        omega
      · simp at h
    · unfold formS at h
      split at h
      · simp only [List.mem_singleton] at h
        subst h
        have := code_size (codeOf x.g2 r) 0
        have h2 : (⟨#[27, 78]⟩ : ByteArray).size = 2 := rfl
        rw [ByteArray.size_append, h2]
        omega
      · simp at h
theorem forms_few (n : Int) (x : St) (r : Int) : (formsP n x r).length ≤ 3 := by
  unfold formsP
  split
  · unfold ownF; split <;> simp
  · have h1 : (formL x r).length ≤ 1 := by unfold formL; split <;> simp
    have h2 : (formR n x r).length ≤ 1 := by unfold formR; split <;> simp
    have h3 : (formS n x r).length ≤ 1 := by unfold formS; split <;> simp
    simp only [List.length_append]
    omega

/-- Such states by number. -/
def stNo (x : St) : Nat := (x.g0 + 9 * x.g1 + 81 * x.g2 + 729 * x.g3 + 6561 * x.l).toNat
theorem stNo_lt {x : St} (h : calmB x = true) : stNo x < 13122 := by
  have ⟨a, b, c, d⟩ := calm_range h
  have e := (calm_un h).2.1
  unfold stNo
  omega
theorem stNo_inj {x y : St} (hx : calmB x = true) (hy : calmB y = true) (h : stNo x = stNo y) : x = y := by
  have ⟨a, b, c, d⟩ := calm_range hx
  have ⟨a', b', c', d'⟩ := calm_range hy
  have ⟨_, e, f, g⟩ := calm_un hx
  have ⟨_, e', f', g'⟩ := calm_un hy
  unfold stNo at h
  obtain ⟨x0, x1, x2, x3, x4, x5, x6⟩ := x
  obtain ⟨y0, y1, y2, y3, y4, y5, y6⟩ := y
  simp only at *
  have h4 : x4 = y4 := by omega
  have h3 : x3 = y3 := by omega
  have h2 : x2 = y2 := by omega
  have h1 : x1 = y1 := by omega
  have h0 : x0 = y0 := by omega
  rw [h0, h1, h2, h3, h4, f, g, f', g']
def Calm (es : List Ent) : Prop := ∀ e ∈ es, calmB e.1 = true
theorem nodup_map {α β : Type} (f : α → β) : ∀ l : List α, l.Nodup → (∀ a ∈ l, ∀ b ∈ l, f a = f b → a = b) → (l.map f).Nodup
  | [], _, _ => by simp
  | a :: l, hd, h => by
    rw [List.nodup_cons] at hd
    rw [List.map_cons, List.nodup_cons]
    refine ⟨fun hm => ?_, nodup_map f l hd.2 fun x hx y hy => h x (List.mem_cons_of_mem _ hx) y (List.mem_cons_of_mem _ hy)⟩
    obtain ⟨b, hb, he⟩ := List.mem_map.1 hm
    rw [h b (List.mem_cons_of_mem _ hb) a (by simp) he] at hb
    exact hd.1 hb
theorem few_states {es : List Ent} (hd : Dist es) (hc : Calm es) : es.length ≤ 13122 := by
  unfold Dist at hd
  have h1 := nodup_le 13122 ((es.map (·.1)).map stNo) (nodup_map stNo _ hd fun a ha b hb he => by
    obtain ⟨e, h1, rfl⟩ := List.mem_map.1 ha
    obtain ⟨f, h2, rfl⟩ := List.mem_map.1 hb
    exact stNo_inj (hc _ h1) (hc _ h2) he) (fun a ha => by
    obtain ⟨x, hx, rfl⟩ := List.mem_map.1 ha
    obtain ⟨e, he, rfl⟩ := List.mem_map.1 hx
    exact stNo_lt (hc e he))
  simpa using h1
theorem addE_calm {es : List Ent} {x : St} {t : ByteArray} (h : Calm es) (hx : calmB x = true) : Calm (addE es x t) := by
  intro e he
  rcases addE_made he with h1 | rfl
  · exact h e h1
  · exact hx

end Go.Proofs.YtibadnfagoehmaaDoor

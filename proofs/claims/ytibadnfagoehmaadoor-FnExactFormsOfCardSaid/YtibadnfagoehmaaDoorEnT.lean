/- Tables of the first text to each state: closed under moves, and behind a written character. No program in sight. -/
import Derived.Test.YtibadnfagoehmaaDoorEnM
import Derived.Test.YtibadnfagoehmaaDoorEnO
namespace Go.Proofs.YtibadnfagoehmaaDoor

def stEqB (x y : St) : Bool := (x.g0 == y.g0) && ((x.g1 == y.g1) && ((x.g2 == y.g2) && ((x.g3 == y.g3) && ((x.l == y.l) && ((x.s == y.s) && (x.d == y.d))))))
theorem stEqB_iff (x y : St) : stEqB x y = true ↔ x = y := by
  obtain ⟨a0, a1, a2, a3, a4, a5, a6⟩ := x
  obtain ⟨b0, b1, b2, b3, b4, b5, b6⟩ := y
  simp [stEqB]
theorem stEqB_not (x y : St) : stEqB x y = false ↔ x ≠ y := by
  rw [← Bool.not_eq_true, stEqB_iff]

/-- A state and a text that leads to it. -/
abbrev Ent := St × ByteArray
/-- What is reached from F by moves. -/
inductive Clos (n : Int) (F : St → ByteArray → Prop) : St → ByteArray → Prop
  | base {x : St} {t : ByteArray} : F x t → Clos n F x t
  | move {x : St} {t : ByteArray} {m : Mv} : Clos n F x t → m ∈ movesP n x → Clos n F m.2 (t ++ m.1)
theorem Clos.mono {n : Int} {F G : St → ByteArray → Prop} (h : ∀ x t, F x t → G x t) {x : St} {t : ByteArray} (c : Clos n F x t) : Clos n G x t := by
  induction c with
  | base h1 => exact .base (h _ _ h1)
  | move _ hm ih => exact .move ih hm
/-- The state behind a character. -/
def behindR (n r : Int) (x : St) : St := if r = 10 then lineX n x else x
/-- What is reached from R by one character. -/
def Wr (n : Int) (R : St → ByteArray → Prop) (r : Int) (y : St) (u : ByteArray) : Prop := ∃ x t f, R x t ∧ f ∈ formsP n x r ∧ y = behindR n r x ∧ u = t ++ f

def Least (R : St → ByteArray → Prop) (x : St) (t : ByteArray) : Prop := R x t ∧ ∀ u, R x u → rk t ≤ rk u
def Dist (es : List Ent) : Prop := (es.map (·.1)).Nodup
/-- The table has a text for x that is t or comes first. -/
def Has (es : List Ent) (x : St) (t : ByteArray) : Prop := ∃ u, (x, u) ∈ es ∧ rk u ≤ rk t
/-- The table tells of each state that R reaches its first text. -/
structure Tabs (R : St → ByteArray → Prop) (es : List Ent) : Prop where
  dist : Dist es
  made : ∀ e ∈ es, R e.1 e.2
  has : ∀ x t, R x t → Has es x t
theorem dist_eq : ∀ {es : List Ent} {x : St} {t u : ByteArray}, Dist es → (x, t) ∈ es → (x, u) ∈ es → t = u
  | [], _, _, _, _, h, _ => by simp at h
  | e :: es, x, t, u, hd, h1, h2 => by
    unfold Dist at hd
    rw [List.map_cons, List.nodup_cons] at hd
    rcases List.mem_cons.1 h1 with h1 | h1 <;> rcases List.mem_cons.1 h2 with h2 | h2
    · rw [← h1] at h2; exact (Prod.mk.inj h2).2.symm
    · exact absurd (List.mem_map.2 ⟨_, h2, by rw [← h1]⟩) hd.1
    · exact absurd (List.mem_map.2 ⟨_, h1, by rw [← h2]⟩) hd.1
    · exact dist_eq (es := es) hd.2 h1 h2
theorem Has.le {es : List Ent} {x : St} {t u : ByteArray} (h : Has es x t) (hl : rk t ≤ rk u) : Has es x u := by
  obtain ⟨v, h1, h2⟩ := h
  exact ⟨v, h1, Nat.le_trans h2 hl⟩
theorem Has.of_mem {es : List Ent} {x : St} {t : ByteArray} (h : (x, t) ∈ es) : Has es x t := ⟨t, h, Nat.le_refl _⟩
theorem Tabs.least {R : St → ByteArray → Prop} {es : List Ent} (h : Tabs R es) {e : Ent} (he : e ∈ es) : Least R e.1 e.2 := by
  refine ⟨h.made e he, fun u hu => ?_⟩
  obtain ⟨v, h1, h2⟩ := h.has _ _ hu
  rw [dist_eq h.dist (show (e.1, e.2) ∈ es from he) h1]
  exact h2
theorem Tabs.congr {R S : St → ByteArray → Prop} {es : List Ent} (h : Tabs R es) (hRS : ∀ x t, R x t ↔ S x t) : Tabs S es :=
  ⟨h.dist, fun e he => (hRS _ _).1 (h.made e he), fun x t hx => h.has x t ((hRS _ _).2 hx)⟩

/-- The table es, closed under moves. -/
structure Spread (n : Int) (es es' : List Ent) : Prop where
  dist : Dist es'
  made : ∀ e ∈ es', Clos n (fun x t => (x, t) ∈ es) e.1 e.2
  kept : ∀ e ∈ es, Has es' e.1 e.2
  shut : ∀ e ∈ es', ∀ m ∈ movesP n e.1, Has es' m.2 (e.2 ++ m.1)
theorem Spread.tabs {n : Int} {F : St → ByteArray → Prop} {es es' : List Ent} (h : Spread n es es') (hF : Tabs F es) : Tabs (Clos n F) es' := by
  refine ⟨h.dist, fun e he => (h.made e he).mono fun x t hx => hF.made _ hx, fun x t hx => ?_⟩
  induction hx with
  | base h1 =>
    obtain ⟨u, h2, h3⟩ := hF.has _ _ h1
    exact (h.kept _ h2).le h3
  | @move x t m _ hm ih =>
    obtain ⟨u, h2, h3⟩ := ih
    exact (h.shut _ h2 m hm).le (rk_app_le m.1 h3)
/-- The table es, one character on. -/
structure Wrote (n r : Int) (es es' : List Ent) : Prop where
  dist : Dist es'
  made : ∀ e ∈ es', ∃ p ∈ es, ∃ f ∈ formsP n p.1 r, e = (behindR n r p.1, p.2 ++ f)
  has : ∀ p ∈ es, ∀ f ∈ formsP n p.1 r, Has es' (behindR n r p.1) (p.2 ++ f)
theorem Wrote.tabs {n r : Int} {R : St → ByteArray → Prop} {es es' : List Ent} (h : Wrote n r es es') (hR : Tabs R es) : Tabs (Wr n R r) es' := by
  refine ⟨h.dist, fun e he => ?_, fun y u hy => ?_⟩
  · obtain ⟨p, hp, f, hf, rfl⟩ := h.made e he
    exact ⟨p.1, p.2, f, hR.made p hp, hf, rfl, rfl⟩
  · obtain ⟨x, t, f, h1, h2, rfl, rfl⟩ := hy
    obtain ⟨v, h3, h4⟩ := hR.has _ _ h1
    exact (h.has _ h3 f h2).le (rk_app_le f h4)

/-- What is reached behind the characters rs. -/
def RelL (n : Int) : List Int → (St → ByteArray → Prop) → (St → ByteArray → Prop)
  | [], R => R
  | r :: rs, R => RelL n rs (Clos n (Wr n R r))
theorem relL_snoc (n : Int) (r : Int) : ∀ (rs : List Int) (R : St → ByteArray → Prop), RelL n (rs ++ [r]) R = Clos n (Wr n (RelL n rs R) r)
  | [], _ => rfl
  | q :: rs, R => by rw [List.cons_append, RelL, relL_snoc n r rs, RelL]
/-- The state behind the header. -/
def headX (n : Int) : St := if n = 3 then ⟨1, 7, 0, 0, 0, 0, 0⟩ else startP n
def Begin (n : Int) (x : St) (t : ByteArray) : Prop := x = headX n ∧ t = prHead n
def Reach (n : Int) (rs : List Int) : St → ByteArray → Prop := RelL n rs (Clos n (Begin n))
/-- The first text of those that may end; the empty one where none may. -/
def EndT (n : Int) (R : St → ByteArray → Prop) (T : ByteArray) : Prop :=
  (∃ x, restB n x = true ∧ R x T ∧ ∀ y u, restB n y = true → R y u → rk T ≤ rk u) ∨ ((∀ y u, R y u → restB n y = false) ∧ T = ⟨#[]⟩)
theorem EndT.unique {n : Int} {R : St → ByteArray → Prop} {T U : ByteArray} (h : EndT n R T) (h2 : EndT n R U) : T = U := by
  rcases h with ⟨x, hx, hR, hl⟩ | ⟨hn, rfl⟩ <;> rcases h2 with ⟨y, hy, hS, hm⟩ | ⟨hk, rfl⟩
  · exact rk_inj (Nat.le_antisymm (hl y U hy hS) (hm x T hx hR))
  · rw [hk x T hR] at hx; cases hx
  · rw [hn y U hS] at hy; cases hy
  · rfl
/-- The encoding of the characters rs. -/
def EncT (n : Int) (rs : List Int) (T : ByteArray) : Prop := EndT n (Reach n rs) T

/-- Where x stands in a table; how many entries it has, where it does not. -/
def idxT (x : St) : List Ent → Nat
  | [] => 0
  | e :: es => if stEqB e.1 x = true then 0 else idxT x es + 1
def txt (es : List Ent) (i : Nat) : ByteArray := (es.getD i (zeroSt, ⟨#[]⟩)).2
def addB (es : List Ent) (x : St) (t : ByteArray) : Bool := if idxT x es < es.length then shortB t (txt es (idxT x es)) else true
def addE (es : List Ent) (x : St) (t : ByteArray) : List Ent := if idxT x es < es.length then (if shortB t (txt es (idxT x es)) = true then es.set (idxT x es) (x, t) else es) else es ++ [(x, t)]
theorem idxT_le (x : St) : ∀ es : List Ent, idxT x es ≤ es.length
  | [] => Nat.le_refl _
  | e :: es => by
    unfold idxT
    split
    · omega
    · have := idxT_le x es; simp only [List.length_cons]; omega
theorem idxT_before (x : St) : ∀ (es : List Ent) (i : Nat) (h : i < es.length), i < idxT x es → stEqB (es[i]).1 x = false
  | [], i, h, _ => by simp at h
  | e :: es, i, h, hi => by
    unfold idxT at hi
    split at hi
    · omega
    · next hn =>
      cases i with
      | zero => simpa using hn
      | succ i => simpa using idxT_before x es i (by simpa using h) (by omega)
theorem idxT_at (x : St) : ∀ (es : List Ent) (h : idxT x es < es.length), (es[idxT x es]).1 = x
  | [], h => by simp at h
  | e :: es, h => by
    by_cases hn : stEqB e.1 x = true
    · simp only [idxT, if_pos hn, List.getElem_cons_zero]
      exact (stEqB_iff _ _).1 hn
    · have h2 : idxT x es < es.length := by
        have h3 := h
        simp only [idxT, if_neg hn, List.length_cons] at h3
        omega
      simp only [idxT, if_neg hn, List.getElem_cons_succ]
      exact idxT_at x es h2
theorem idxT_out (x : St) : ∀ (es : List Ent), es.length ≤ idxT x es → ∀ e ∈ es, e.1 ≠ x
  | [], _, e, he => by simp at he
  | f :: es, h, e, he => by
    by_cases hn : stEqB f.1 x = true
    · simp only [idxT, if_pos hn, List.length_cons] at h; omega
    · simp only [idxT, if_neg hn, List.length_cons] at h
      rcases List.mem_cons.1 he with rfl | he
      · exact fun hx => hn ((stEqB_iff _ _).2 hx)
      · exact idxT_out x es (by omega) e he
theorem txt_at (es : List Ent) (i : Nat) (h : i < es.length) : txt es i = (es[i]).2 := by simp [txt, List.getD, h]
theorem idxT_mem {x : St} {es : List Ent} (h : idxT x es < es.length) : (x, txt es (idxT x es)) ∈ es := by
  have h1 := idxT_at x es h
  have h2 := List.getElem_mem h
  rw [txt_at es _ h]
  rw [show es[idxT x es] = (x, (es[idxT x es]).2) from Prod.ext h1 rfl] at h2
  exact h2
theorem mem_set_cases {α : Type} {es : List α} {i : Nat} {a e : α} (h : e ∈ es.set i a) : e ∈ es ∨ e = a := by
  rcases List.mem_or_eq_of_mem_set h with h | h
  · exact .inl h
  · exact .inr h
theorem addE_made {es : List Ent} {x : St} {t : ByteArray} {e : Ent} (h : e ∈ addE es x t) : e ∈ es ∨ e = (x, t) := by
  unfold addE at h
  split at h
  · split at h
    · exact mem_set_cases h
    · exact .inl h
  · rcases List.mem_append.1 h with h | h
    · exact .inl h
    · exact .inr (by simpa using h)
theorem addE_has (es : List Ent) (x : St) (t : ByteArray) : Has (addE es x t) x t := by
  unfold addE
  split
  · next hi =>
    split
    · exact ⟨t, List.mem_set hi _, Nat.le_refl _⟩
    · next hs => exact ⟨_, idxT_mem hi, (rk_not _ _).1 (by simpa using hs)⟩
  · exact ⟨t, by simp, Nat.le_refl _⟩
theorem addE_kept {es : List Ent} {x y : St} {t u : ByteArray} (hd : Dist es) (h : (y, u) ∈ es) : Has (addE es x t) y u := by
  unfold addE
  split
  · next hi =>
    split
    · next hs =>
      by_cases hy : y = x
      · subst hy
        refine ⟨t, List.mem_set hi _, ?_⟩
        rw [dist_eq hd h (idxT_mem hi)]
        exact Nat.le_of_lt ((rk_iff _ _).1 hs)
      · refine ⟨u, ?_, Nat.le_refl _⟩
        obtain ⟨j, hj, he⟩ := List.getElem_of_mem h
        have hne : idxT x es ≠ j := fun hc => by
          subst hc
          have := idxT_at x es hi
          rw [he] at this
          exact hy this
        have h3 : (es.set (idxT x es) (x, t))[j]'(by simpa using hj) = (y, u) := by rw [List.getElem_set_ne hne]; exact he
        rw [← h3]
        exact List.getElem_mem _
    · exact Has.of_mem h
  · exact Has.of_mem (List.mem_append_left _ h)
theorem map_set_same {es : List Ent} {i : Nat} {e : Ent} (h : ∀ hi : i < es.length, (es[i]).1 = e.1) : (es.set i e).map (·.1) = es.map (·.1) := by
  rw [List.map_set]
  by_cases hi : i < es.length
  · apply List.ext_getElem (by simp)
    intro j h1 h2
    rw [List.getElem_set]
    split
    · next hj => subst hj; simp [h hi]
    · rfl
  · rw [List.set_eq_of_length_le (by simpa using hi)]
theorem addE_dist {es : List Ent} {x : St} {t : ByteArray} (hd : Dist es) : Dist (addE es x t) := by
  unfold addE
  split
  · next hi =>
    split
    · unfold Dist
      rw [map_set_same (fun h => idxT_at x es h)]
      exact hd
    · exact hd
  · next hi =>
    unfold Dist
    rw [List.map_append, List.nodup_append]
    refine ⟨hd, by simp, ?_⟩
    intro a ha b hb
    obtain ⟨e, he, rfl⟩ := List.mem_map.1 ha
    have := idxT_out x es (by omega) e he
    simp at hb
    rw [hb]
    exact this
theorem addE_same {es : List Ent} {x : St} {t : ByteArray} (h : addB es x t = false) : addE es x t = es := by
  unfold addB at h
  unfold addE
  split
  · next hi => rw [if_pos hi] at h; rw [if_neg (by rw [h]; decide)]
  · next hi => rw [if_neg hi] at h; cases h
theorem addE_len (es : List Ent) (x : St) (t : ByteArray) : es.length ≤ (addE es x t).length ∧ (addE es x t).length ≤ es.length + 1 := by
  unfold addE
  split
  · split <;> simp
  · simp
theorem addE_fst {es : List Ent} {x : St} {t : ByteArray} (i : Nat) (h : i < es.length) : ((addE es x t)[i]'(Nat.lt_of_lt_of_le h (addE_len es x t).1)).1 = (es[i]).1 := by
  unfold addE
  split
  · next hi =>
    split
    · rw [List.getElem_set]
      split
      · next hj => subst hj; exact (idxT_at x es hi).symm
      · rfl
    · rfl
  · rw [List.getElem_append_left h]

/-- How much a table may still get better. -/
def sumR (es : List Ent) : Nat := (es.map fun e => rk e.2).sum
def meas (N G : Nat) (es : List Ent) : Nat := (N - es.length) * G + sumR es
theorem sumR_set {es : List Ent} {i : Nat} {e : Ent} (hi : i < es.length) (h : rk e.2 < rk (es[i]).2) : sumR (es.set i e) < sumR es := by
  unfold sumR
  induction es generalizing i with
  | nil => simp at hi
  | cons a es ih =>
    cases i with
    | zero =>
      simp only [List.set_cons_zero, List.map_cons, List.sum_cons, List.getElem_cons_zero] at h ⊢
      omega
    | succ i =>
      have hi2 : i < es.length := by simpa using hi
      have := ih hi2 (by simpa using h)
      simp only [List.set_cons_succ, List.map_cons, List.sum_cons] at this ⊢
      omega
theorem addE_meas {N G : Nat} {es : List Ent} {x : St} {t : ByteArray} (hl : (addE es x t).length ≤ N) (hG : rk t < G) (hb : addB es x t = true) : meas N G (addE es x t) < meas N G es := by
  unfold addB at hb
  unfold addE at hl ⊢
  unfold meas
  split at hb
  · next hi =>
    rw [if_pos hi, if_pos hb]
    have := sumR_set (e := (x, t)) hi (by rw [← txt_at es _ hi]; exact (rk_iff _ _).1 hb)
    rw [List.length_set]
    omega
  · next hi =>
    rw [if_neg hi] at hl ⊢
    have h1 : (es ++ [(x, t)]).length = es.length + 1 := by simp
    have h2 : sumR (es ++ [(x, t)]) = sumR es + rk t := by simp [sumR]
    rw [h1, h2]
    rw [h1] at hl
    have h3 : (N - es.length) * G = (N - (es.length + 1)) * G + G := by
      rw [show N - es.length = N - (es.length + 1) + 1 by omega, Nat.succ_mul]
    omega

end Go.Proofs.YtibadnfagoehmaaDoor

/- Tokens, as plain functions: no program in sight. -/
import Derived.Test.YtbamjhldebobhaaDoorTakeM
namespace Go.Proofs.YtbamjhldebobhaaDoor

/-- A token: kind, A, B, C, offset, length. -/
structure Tok where
  k : Int
  a : Int
  b : Int
  c : Int
  p : Int
  n : Int
def tokV (x : Tok) : Value := .agg #[.int .i64 x.k, .int .i64 x.a, .int .i64 x.b, .int .i64 x.c, .int .i64 x.p, .int .i64 x.n]
def tokCells (x : Tok) : List Value := [.int .i64 x.k, .int .i64 x.a, .int .i64 x.b, .int .i64 x.c, .int .i64 x.p, .int .i64 x.n]
def zeroTok : Tok := ⟨0, 0, 0, 0, 0, 0⟩

/-- The intermediates that designate, in the order of the list. -/
def mids : List ByteArray := [⟨#[40]⟩, ⟨#[41]⟩, ⟨#[42]⟩, ⟨#[43]⟩, ⟨#[45]⟩, ⟨#[46]⟩, ⟨#[47]⟩, ⟨#[36]⟩, ⟨#[36, 40]⟩, ⟨#[36, 41]⟩, ⟨#[36, 42]⟩, ⟨#[36, 43]⟩]
/-- The place of the first of a list of strings that is s, from place k on; -1 of none. -/
def placeOf (s : ByteArray) : List ByteArray → Int → Int
  | [], _ => -1
  | t :: r, k => if t = s then k else placeOf s r (k + 1)
def midNo (s : ByteArray) : Int := placeOf s mids 0
/-- Its register and its kind. -/
def midG (s : ByteArray) : Int := if midNo s < 0 then -1 else if midNo s < 4 then midNo s else if midNo s < 7 then midNo s - 3 else if midNo s = 7 then 0 else midNo s - 8
def midK (s : ByteArray) : Int := if midNo s < 0 then 0 else if midNo s < 4 then 1 else if midNo s < 7 then 2 else 3

theorem placeOf_ge (s : ByteArray) : ∀ (l : List ByteArray) (k : Int), 0 ≤ k → placeOf s l k = -1 ∨ (k ≤ placeOf s l k ∧ placeOf s l k < k + l.length)
  | [], _, _ => .inl rfl
  | t :: r, k, hk => by
    unfold placeOf
    split
    · exact .inr ⟨by omega, by simp; omega⟩
    · rcases placeOf_ge s r (k + 1) (by omega) with h | ⟨h1, h2⟩
      · exact .inl h
      · exact .inr ⟨by omega, by simp; omega⟩
theorem midNo_range (s : ByteArray) : midNo s = -1 ∨ (0 ≤ midNo s ∧ midNo s < 12) := by
  have := placeOf_ge s mids 0 (by omega)
  simpa [midNo, mids] using this

/-- A whole escape sequence with these intermediates and this final byte. -/
def plainTok (mid : ByteArray) (f p n : Int) : Tok :=
  if mid = ⟨#[]⟩ then
    (if f = 78 ∨ f = 79 then ⟨6, f - 78 + 2, 0, 0, p, n⟩ else if f = 110 ∨ f = 111 then ⟨5, f - 110 + 2, 0, 0, p, n⟩ else ⟨9, 0, 0, 0, p, n⟩)
  else if midG mid < 0 ∨ f < 64 ∨ (mid = ⟨#[36]⟩ ∧ 66 < f) then ⟨9, 0, 0, 0, p, n⟩ else ⟨7, midG mid, midK mid, f, p, n⟩

/-- An escape sequence at k, its bytes read from i on; f bounds how many. -/
def escTok (s : ByteArray) (k : Nat) : Nat → Nat → Tok
  | 0, _ => ⟨8, 0, 0, 0, k, (s.size : Int) - k⟩
  | f + 1, i =>
    if i < s.size then
      if inB (byteAt s i) 32 47 = true then (if i = k + 4 then ⟨9, 0, 0, 0, k, 5⟩ else escTok s k f (i + 1))
      else if inB (byteAt s i) 48 126 = true then plainTok (s.extract (k + 1) i) (byteAt s i) k ((i : Int) + 1 - k) else ⟨9, 0, 0, 0, k, (i : Int) - k⟩
    else ⟨8, 0, 0, 0, k, (s.size : Int) - k⟩

/-- The token at k. -/
def nextTok (s : ByteArray) (k : Nat) : Tok :=
  if byteAt s k = 27 then escTok s k (s.size - k) (k + 1)
  else if byteAt s k = 14 ∨ byteAt s k = 15 then ⟨5, 15 - byteAt s k, 0, 0, k, 1⟩
  else if byteAt s k = 142 ∨ byteAt s k = 143 then ⟨6, byteAt s k - 140, 0, 0, k, 1⟩
  else if byteAt s k = 32 then ⟨2, 0, 0, 0, k, 1⟩
  else if inB (byteAt s k) 33 126 = true then ⟨3, byteAt s k, 0, 0, k, 1⟩
  else if 160 ≤ byteAt s k then ⟨4, byteAt s k - 128, 0, 0, k, 1⟩
  else ⟨1, byteAt s k, 0, 0, k, 1⟩

theorem plainTok_pn (mid : ByteArray) (f p n : Int) : (plainTok mid f p n).p = p ∧ (plainTok mid f p n).n = n := by
  unfold plainTok
  repeat' split
  all_goals exact ⟨rfl, rfl⟩
/-- A token lies within the string. -/
theorem escTok_in (s : ByteArray) (k : Nat) (hk : k < s.size) : ∀ f i, k < i → i ≤ s.size → (escTok s k f i).p = k ∧ 1 ≤ (escTok s k f i).n ∧ (escTok s k f i).n ≤ (s.size : Int) - k
  | 0, i, h1, h2 => ⟨rfl, by simp only [escTok]; omega, by simp only [escTok]; omega⟩
  | f + 1, i, h1, h2 => by
    unfold escTok
    split
    · split
      · split
        · exact ⟨rfl, by simp, by simp only; omega⟩
        · exact escTok_in s k hk f (i + 1) (by omega) (by omega)
      · split
        · have ⟨a, b⟩ := plainTok_pn (s.extract (k + 1) i) (byteAt s i) k ((i : Int) + 1 - k)
          rw [a, b]
          exact ⟨rfl, by omega, by omega⟩
        · exact ⟨rfl, by simp only; omega, by simp only; omega⟩
    · exact ⟨rfl, by simp only; omega, by simp only; omega⟩
theorem nextTok_in (s : ByteArray) (k : Nat) (hk : k < s.size) : (nextTok s k).p = k ∧ 1 ≤ (nextTok s k).n ∧ (nextTok s k).n ≤ (s.size : Int) - k := by
  unfold nextTok
  split
  · exact escTok_in s k hk _ _ (by omega) (by omega)
  repeat' split
  all_goals exact ⟨rfl, by simp, by simp only; omega⟩

/-- All tokens from k on. -/
def toksFrom (s : ByteArray) : Nat → Nat → List Tok
  | 0, _ => []
  | f + 1, k => if k < s.size then nextTok s k :: toksFrom s f (k + (nextTok s k).n.toNat) else []
def toksOf (s : ByteArray) : List Tok := toksFrom s s.size 0
theorem toksFrom_le (s : ByteArray) : ∀ f k, (toksFrom s f k).length ≤ f
  | 0, _ => by simp [toksFrom]
  | f + 1, k => by
    unfold toksFrom
    split
    · simp only [List.length_cons]; have := toksFrom_le s f (k + (nextTok s k).n.toNat); omega
    · simp

end Go.Proofs.YtbamjhldebobhaaDoor

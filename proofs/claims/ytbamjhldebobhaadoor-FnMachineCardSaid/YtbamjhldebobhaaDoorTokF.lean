/- A token's text, where it bears numbers. -/
import Derived.Test.YtbamjhldebobhaaDoorTokE
namespace Go.Proofs.YtbamjhldebobhaaDoor
open Go.RowKit

/-- A word and a number. -/
theorem one_cats (T A : ByteArray) (hT : T.size ≤ 20) (hA : A.size ≤ 21) :
    (∀ w, (Op.stringOp .add ⟨#[32]⟩ A).run Tryd.prog w = .ok (.string (⟨#[32]⟩ ++ A)) w) ∧ (∀ w, (Op.stringOp .add T (⟨#[32]⟩ ++ A)).run Tryd.prog w = .ok (.string (T ++ (⟨#[32]⟩ ++ A))) w) ∧ (T ++ (⟨#[32]⟩ ++ A)).size ≤ 200 := by
  have s1 : (⟨#[32]⟩ : ByteArray).size = 1 := rfl
  refine ⟨fun w => cat_run _ _ ?_ w, fun w => cat_run _ _ ?_ w, ?_⟩
  all_goals simp only [ByteArray.size_append, s1]
  all_goals omega
/-- A word and three numbers. -/
theorem three_cats (T A B C : ByteArray) (hT : T.size ≤ 20) (hA : A.size ≤ 21) (hB : B.size ≤ 21) (hC : C.size ≤ 21) :
    (∀ w, (Op.stringOp .add ⟨#[32]⟩ A).run Tryd.prog w = .ok (.string (⟨#[32]⟩ ++ A)) w) ∧ (∀ w, (Op.stringOp .add (⟨#[32]⟩ ++ A) ⟨#[32]⟩).run Tryd.prog w = .ok (.string (⟨#[32]⟩ ++ A ++ ⟨#[32]⟩)) w) ∧
    (∀ w, (Op.stringOp .add (⟨#[32]⟩ ++ A ++ ⟨#[32]⟩) B).run Tryd.prog w = .ok (.string (⟨#[32]⟩ ++ A ++ ⟨#[32]⟩ ++ B)) w) ∧ (∀ w, (Op.stringOp .add (⟨#[32]⟩ ++ A ++ ⟨#[32]⟩ ++ B) ⟨#[32]⟩).run Tryd.prog w = .ok (.string (⟨#[32]⟩ ++ A ++ ⟨#[32]⟩ ++ B ++ ⟨#[32]⟩)) w) ∧
    (∀ w, (Op.stringOp .add (⟨#[32]⟩ ++ A ++ ⟨#[32]⟩ ++ B ++ ⟨#[32]⟩) C).run Tryd.prog w = .ok (.string (⟨#[32]⟩ ++ A ++ ⟨#[32]⟩ ++ B ++ ⟨#[32]⟩ ++ C)) w) ∧
    (∀ w, (Op.stringOp .add T (⟨#[32]⟩ ++ A ++ ⟨#[32]⟩ ++ B ++ ⟨#[32]⟩ ++ C)).run Tryd.prog w = .ok (.string (T ++ (⟨#[32]⟩ ++ A ++ ⟨#[32]⟩ ++ B ++ ⟨#[32]⟩ ++ C))) w) ∧ (T ++ (⟨#[32]⟩ ++ A ++ ⟨#[32]⟩ ++ B ++ ⟨#[32]⟩ ++ C)).size ≤ 200 := by
  have s1 : (⟨#[32]⟩ : ByteArray).size = 1 := rfl
  refine ⟨fun w => cat_run _ _ ?_ w, fun w => cat_run _ _ ?_ w, fun w => cat_run _ _ ?_ w, fun w => cat_run _ _ ?_ w, fun w => cat_run _ _ ?_ w, fun w => cat_run _ _ ?_ w, ?_⟩
  all_goals simp only [ByteArray.size_append, s1]
  all_goals omega

theorem tok_small {x : Tok} (h : tokOKB x = true) : (0 ≤ x.a ∧ x.a ≤ 65536) ∧ (0 ≤ x.b ∧ x.b ≤ 65536) ∧ (0 ≤ x.c ∧ x.c ≤ 65536) ∧ (0 ≤ x.p ∧ x.p ≤ 65536) ∧ (0 ≤ x.n ∧ x.n ≤ 65536) ∧ 1 ≤ x.k ∧ x.k ≤ 9 := by
  have := (tokOKB_iff x).1 h
  unfold tokOKP at this
  omega

def ttC (x : Tok) : Int := if tokOKB x = true then 0 else 1
def ttT (x : Tok) : ByteArray := if tokOKB x = true then tokTx x else ⟨#[]⟩
def ttV (x : Tok) : Value := .tuple #[.string (ttT x), .int .i64 (ttC x)]

end Go.Proofs.YtbamjhldebobhaaDoor

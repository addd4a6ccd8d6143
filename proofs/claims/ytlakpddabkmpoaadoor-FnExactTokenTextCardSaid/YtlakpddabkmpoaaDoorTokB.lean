/- The specification's tokens: escape sequences and the token at an offset. -/
import Derived.Test.YtlakpddabkmpoaaDoorTokA
namespace Go.Proofs.YtlakpddabkmpoaaDoor
open Go.RowKit

/-- A new slot for a token, and a call that leaves it. -/
theorem below_one (w : World) (o : Obj) : Below w.heap.size w (w.alloc o) := (Below.refl _ _).alloc (Nat.le_refl _) _
theorem slot0 (w : World) : TokAt (w.alloc (.cells #[.int .i64 0, .int .i64 0, .int .i64 0, .int .i64 0, .int .i64 0, .int .i64 0] 50)) w.heap.size zeroTok := heap_alloc_new _ _

end Go.Proofs.YtlakpddabkmpoaaDoor

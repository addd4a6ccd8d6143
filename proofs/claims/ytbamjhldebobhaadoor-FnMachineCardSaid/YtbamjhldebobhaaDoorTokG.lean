/- The laws' own way to a token. -/
import Derived.Test.YtbamjhldebobhaaDoorTokF
namespace Go.Proofs.YtbamjhldebobhaaDoor
open Go.RowKit

theorem below_three (w : World) (o o' o'' : Obj) : Below w.heap.size w (((w.alloc o).alloc o').alloc o'') := (below_two w o o').alloc (by simp; omega) _

end Go.Proofs.YtbamjhldebobhaaDoor

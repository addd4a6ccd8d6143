/- The laws' own way to a token. -/
import Derived.Test.YtjbikenhdgbacaaDoorTokF
namespace Go.Proofs.YtjbikenhdgbacaaDoor
open Go.RowKit

theorem below_three (w : World) (o o' o'' : Obj) : Below w.heap.size w (((w.alloc o).alloc o').alloc o'') := (below_two w o o').alloc (by simp; omega) _

set_option maxHeartbeats 1000000 in
theorem laws_toToken (x : Tok) (w : World) : Calls Tryd.prog 32 #[tokV x] w (TokDone x w) := by
  unfold tokV
  go_enter Tryd.func32, Tryd.ntmps32
  go_wp2
  exact tok_ret rfl rfl rfl ((Below.heap_alloc _ _ _ (by simp)).trans (heap_alloc2_new _ _ _)) Tryd.underlying38 rfl (by kernel_rfl) rfl (below_three _ _ _ _)

end Go.Proofs.YtjbikenhdgbacaaDoor

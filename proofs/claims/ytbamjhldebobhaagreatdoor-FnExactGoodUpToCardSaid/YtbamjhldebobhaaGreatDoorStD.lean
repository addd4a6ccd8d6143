/- The specification's StartState, StateOK, RegisterOf, Pending. -/
import Derived.Test.YtbamjhldebobhaaGreatDoorStC
namespace Go.Proofs.YtbamjhldebobhaaGreatDoor
open Go.RowKit

set_option maxHeartbeats 1000000 in
theorem spec_l04Start (w : World) : Calls Tryz.prog 109 #[] w (StDone startSt w) := by
  go_enter Tryz.func109, Tryz.ntmps109
  go_wp2
  exact st_ret (y := startSt) rfl rfl rfl (heap_alloc_new _ _) Tryz.underlying39 rfl (by kernel_rfl) rfl (below_one _ _)

def peB (x : St) : Bool := stOKB x && pendB x

/-- RegisterOf: the code and the set. -/
def rgoC (x : St) (n : Int) : Int := if stOKB x = true then (if inB n 0 3 = true then 0 else 4) else 1
def rgoV (x : St) (n : Int) : Value := .tuple #[.int .i64 (if rgoC x n = 0 then stGet x n else 0), .int .i64 (rgoC x n)]
theorem rgoV_bad {x : St} {n c : Int} (h : rgoC x n = c) (h0 : c ≠ 0) : rgoV x n = .tuple #[.int .i64 0, .int .i64 c] := by simp [rgoV, h, h0]
theorem rgoV_ok {x : St} {n : Int} (h : rgoC x n = 0) : rgoV x n = .tuple #[.int .i64 (stGet x n), .int .i64 0] := by simp [rgoV, h]

end Go.Proofs.YtbamjhldebobhaaGreatDoor

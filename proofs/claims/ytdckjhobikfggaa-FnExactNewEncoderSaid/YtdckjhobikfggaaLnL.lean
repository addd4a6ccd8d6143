/- The laws' encoders: measured, compared, marked. -/
import Derived.Test.YtdckjhobikfggaaLnA
import Derived.Test.YtdckjhobikfggaaMarkB
namespace Go.Proofs.Ytdckjhobikfggaa
open Go.RowKit

set_option maxHeartbeats 1000000 in
theorem laws_eqEncoder (e : Ec) (v u : Value) (w : World) (hv : Ints .i64 w v e.z) (hu : Ints .i64 w u e.z) (hl : e.z.length ≤ 1048576) : Calls Try.prog 7 #[ecV e v, ecV e u] w fun x w' => x = .returned (.bool true) ∧ Below w.heap.size w w' := by
  have B0 := Lib.hid (ecBelow2 w (.cells #[.int .i64 e.n, .int .i64 e.c, .int .i64 e.k, .string e.r, v, .bool e.b, .bool e.o] 24) (.cells #[.int .i64 e.n, .int .i64 e.c, .int .i64 e.k, .string e.r, u, .bool e.b, .bool e.o] 24))
  have HQ := Lib.hid (laws_eqIntS v u e.z e.z ((w.alloc (.cells #[.int .i64 e.n, .int .i64 e.c, .int .i64 e.k, .string e.r, v, .bool e.b, .bool e.o] 24)).alloc (.cells #[.int .i64 e.n, .int .i64 e.c, .int .i64 e.k, .string e.r, u, .bool e.b, .bool e.o] 24)) (hv.keep B0.out) (hu.keep B0.out) (by omega) (by omega))
  rw [decide_eq_true rfl] at HQ
  have A0 : Hid (EcAt ((w.alloc (.cells #[.int .i64 e.n, .int .i64 e.c, .int .i64 e.k, .string e.r, v, .bool e.b, .bool e.o] 24)).alloc (.cells #[.int .i64 e.n, .int .i64 e.c, .int .i64 e.k, .string e.r, u, .bool e.b, .bool e.o] 24)) w.heap.size e v) := Lib.hid (heap_alloc2_old _ _ _)
  have A1 : Hid (EcAt ((w.alloc (.cells #[.int .i64 e.n, .int .i64 e.c, .int .i64 e.k, .string e.r, v, .bool e.b, .bool e.o] 24)).alloc (.cells #[.int .i64 e.n, .int .i64 e.c, .int .i64 e.k, .string e.r, u, .bool e.b, .bool e.o] 24)) (w.heap.size + 1) e u) := Lib.hid (heap_alloc2_new _ _ _)
  clear hv hu hl
  obtain ⟨n, c, k, r, z, b, o⟩ := e
  unfold ecV
  dsimp only at *
  have s1 : (r.toList != r.toList) = false := by simp
  have f5 : (b != b) = false := by simp
  have f6 : (o != o) = false := by simp
  have f0 : (n != n) = false := by simp
  have f1 : (c != c) = false := by simp
  have f2 : (k != k) = false := by simp
  go_enter Try.func7, Try.ntmps7
  go_wp2_with fail
  refine HQ.out.mono ?_
  generalize (w.alloc (.cells #[.int .i64 n, .int .i64 c, .int .i64 k, .string r, v, .bool b, .bool o] 24)).alloc (.cells #[.int .i64 n, .int .i64 c, .int .i64 k, .string r, u, .bool b, .bool o] 24) = W0 at *
  rintro x w1 ⟨rfl, q, rfl⟩
  have ⟨x0, x1, x2, x3, x4, x5, x6⟩ := ecCells A0.out
  have ⟨y0, y1, y2, y3, y4, y5, y6⟩ := ecCells A1.out
  have B9 : Hid (Below w.heap.size w (W0.drewN q)) := Lib.hid (below_drewN B0.out q)
  go_wp2
  go_ret
  exact ⟨rfl, B9.out⟩

set_option maxHeartbeats 1000000 in
theorem laws_markEncoder (e : Ec) (v : Value) (k : Int) (B : Nat) (w : World) (h : Own .i64 3 w B v e.z) (hl : e.z.length ≤ 1048576) (hk : 0 ≤ k) (hk2 : k ≤ 1048576) (hB : B ≤ w.heap.size) : Calls Try.prog 8 #[ecV e v, .int .i64 k] w fun x w' => x = .returned (.int .i64 (k + e.z.length)) ∧ Own .i64 3 w' B v (marks k e.z.length) ∧ Below B w w' ∧ ∀ i, v.ownBlock ≠ some i → i < w.heap.size → w'.heap[i]? = w.heap[i]? := by
  have B0 := Lib.hid (ecBelow1 w (.cells #[.int .i64 e.n, .int .i64 e.c, .int .i64 e.k, .string e.r, v, .bool e.b, .bool e.o] 24))
  have HQ := Lib.hid (laws_markIntSB v e.z k B (w.alloc (.cells #[.int .i64 e.n, .int .i64 e.c, .int .i64 e.k, .string e.r, v, .bool e.b, .bool e.o] 24)) (h.all B0.out) hl hk (by omega))
  clear h hl
  unfold ecV
  go_enter Try.func8, Try.ntmps8
  go_wp2_with fail
  refine HQ.out.mono ?_
  generalize w.alloc (.cells #[.int .i64 e.n, .int .i64 e.c, .int .i64 e.k, .string e.r, v, .bool e.b, .bool e.o] 24) = W0 at *
  rintro x w1 ⟨rfl, o1, b1, k1⟩
  have HD : Hid (Own .i64 3 w1 B v (marks k e.z.length) ∧ Below B w w1 ∧ ∀ i, v.ownBlock ≠ some i → i < w.heap.size → w1.heap[i]? = w.heap[i]?) := Lib.hid ⟨o1, (B0.out.mono hB).trans b1, fun i hi hl => (k1 i hi (Nat.lt_of_lt_of_le hl B0.out.size)).trans (B0.out.block i hl)⟩
  clear o1 b1 k1
  go_wp2
  go_ret
  exact ⟨rfl, HD.out⟩

set_option maxHeartbeats 1000000 in
theorem laws_heldEncoder (e : Ec) (v : Value) (k : Int) (m : Nat) (w : World) (h : Ints .i64 w v (marks k m)) (hl : m ≤ 1048576) (hk : 0 ≤ k) (hk2 : k ≤ 1048576) : Calls Try.prog 9 #[ecV e v, .int .i64 k] w fun x w' => x = .returned (.int .i64 (k + m)) ∧ Below w.heap.size w w' := by
  have B0 := Lib.hid (ecBelow1 w (.cells #[.int .i64 e.n, .int .i64 e.c, .int .i64 e.k, .string e.r, v, .bool e.b, .bool e.o] 24))
  have HQ := Lib.hid (laws_heldIntS v k m (w.alloc (.cells #[.int .i64 e.n, .int .i64 e.c, .int .i64 e.k, .string e.r, v, .bool e.b, .bool e.o] 24)) (h.keep B0.out) hl hk (by omega))
  have v3 : (0 : Int) ≤ k + (m : Int) := by omega
  have v4 : ¬ k + (m : Int) < 0 := by omega
  clear h hl
  unfold ecV
  go_enter Try.func9, Try.ntmps9
  go_wp2_with fail
  refine HQ.out.mono ?_
  rintro x w1 ⟨rfl, rfl⟩
  go_wp2
  go_ret
  exact ⟨rfl, B0.out⟩

/-- Marking a line that is empty: nothing that was there changes. -/
theorem laws_markEncoder0 (e : Ec) (v : Value) (k : Int) (B : Nat) (w : World) (h : Own .i64 3 w B v e.z) (h0 : e.z = []) (hk : 0 ≤ k) (hk2 : k ≤ 1048576) (hB : B ≤ w.heap.size) : Calls Try.prog 8 #[ecV e v, .int .i64 k] w fun x w' => x = .returned (.int .i64 k) ∧ Below B w w' ∧ Own .i64 3 w' B v [] ∧ ∀ i, v.ownBlock ≠ some i → i < w.heap.size → w'.heap[i]? = w.heap[i]? := by
  have h1 := laws_markEncoder e v k B w h (by rw [h0]; decide) hk hk2 hB
  rw [h0] at h1
  exact h1.mono fun x w' ⟨h2, h3, h4, h5⟩ => ⟨by rw [h2]; simp, h4, h3, h5⟩

/-- What remains of a measure. -/
def leftE (e : Ec) (m : Int) : Int := if (e.r.size : Int) ≤ m then (if (e.z.length : Int) ≤ m - e.r.size then m - e.r.size - e.z.length else -1) else -1

end Go.Proofs.Ytdckjhobikfggaa

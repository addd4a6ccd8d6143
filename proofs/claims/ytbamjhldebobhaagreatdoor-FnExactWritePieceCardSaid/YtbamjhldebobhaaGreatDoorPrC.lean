/- The specification's AllowsToken. -/
import Derived.Test.YtbamjhldebobhaaGreatDoorPrB
import Derived.Test.YtbamjhldebobhaaGreatDoorTokG
namespace Go.Proofs.YtbamjhldebobhaaGreatDoor
open Go.RowKit Go.Sort

/-- A list holds a number. -/
def hasB (zs : List Int) (n : Int) : Bool := zs.contains n
theorem hasB_iff (zs : List Int) (n : Int) : hasB zs n = true ↔ n ∈ zs := by simp [hasB]
theorem hasB_take (zs : List Int) (k : Nat) (n : Int) (h : k < zs.length) : hasB (zs.take (k + 1)) n = (hasB (zs.take k) n || decide (zs.getD k 0 = n)) := by
  rw [Bool.eq_iff_iff, hasB_iff, Bool.or_eq_true, hasB_iff, decide_eq_true_eq, List.take_succ_eq_append_getElem h, List.mem_append, List.mem_singleton]
  simp only [List.getD, List.getElem?_eq_getElem h, Option.getD_some]
  constructor
  · rintro (h | h)
    · exact .inl h
    · exact .inr h.symm
  · rintro (h | h)
    · exact .inl h
    · exact .inr h.symm

set_option maxHeartbeats 400000 in
theorem spec_l05In (v : Value) (zs : List Int) (n : Int) (w : World) (h : Ints .i64 w v zs) (hl : zs.length ≤ 1048576) : Calls Tryz.prog 150 #[v, .int .i64 n] w fun e w' => e = .returned (.bool (hasB zs n)) ∧ w = w' := by
  rcases h with ⟨rfl, a, c, rfl⟩ | ⟨b, off, c, rfl, hcell⟩
  · go_enter Tryz.func150, Tryz.ntmps150
    go_wp2
    go_loop [5] (fun i => i = .int .i64 0) (fun _ => 0)
    case atStart => rfl
    case round =>
      subst hrel
      go_wp2
      go_ret
      exact ⟨ret_bool rfl, rfl⟩
  · generalize hm : zs.length = m at *
    have HM := Lib.hid hm
    clear hm
    go_enter Tryz.func150, Tryz.ntmps150
    go_wp2
    go_loop [5] (fun i => ∃ j : Nat, j ≤ m ∧ i = .int .i64 j ∧ Hid (hasB (zs.take j) n = false)) (fun i => m - (intOf i).toNat)
    case atStart => exact ⟨0, Nat.zero_le _, rfl, Lib.hid rfl⟩
    case round =>
      obtain ⟨j, hj, rfl, HJ⟩ := hrel
      by_cases hlt : j < m
      · have c1 := hcell j hlt
        have e1 : (0 : Int) ≤ (j : Int) := by omega
        have e2 : (j : Int) < (m : Int) := by omega
        have HT := Lib.hid (hasB_take zs j n (by have := HM.out; omega))
        generalize zs.getD j 0 = z at *
        clear hcell
        by_cases hz : z = n
        · have ez : (z == n) = true := by simp [hz]
          have HE : Hid (hasB zs n = true) := Lib.hid (by
            have h1 : hasB (zs.take (j + 1)) n = true := by rw [HT.out, hz]; simp
            rw [hasB_iff] at h1 ⊢
            exact List.mem_of_mem_take h1)
          clear hz
          go_wp2
          go_ret
          exact ⟨ret_bool HE.out.symm, rfl⟩
        · have ez : (z == n) = false := by simp [hz]
          have HN : Hid (hasB (zs.take (j + 1)) n = false) := Lib.hid (by
            rw [HT.out, HJ.out]
            simp [hz])
          clear hz
          go_wp2
          go_round
          case rel => exact ⟨j + 1, by omega, by go_num, HN⟩
          case measure => simp [intOf]; omega
      · have HE : Hid (hasB zs n = false) := Lib.hid (by
          have h := HJ.out
          rw [List.take_of_length_le (by have := HM.out; omega)] at h
          exact h)
        go_wp2
        go_ret
        exact ⟨ret_bool HE.out.symm, rfl⟩

theorem l05_blocks (w : World) (n : Int) (v : Value) (t : Tok) : PrAt ((w.alloc (.cells #[.string (prName n), .string (prHead n), v, .bool (prRight n), .bool (prShifts n), .bool (prSingle n), .bool (prReset n), .bool (prClear n)] 60)).alloc (.cells #[.int .i64 t.k, .int .i64 t.a, .int .i64 t.b, .int .i64 t.c, .int .i64 t.p, .int .i64 t.n] 102)) w.heap.size n v ∧ TokAt ((w.alloc (.cells #[.string (prName n), .string (prHead n), v, .bool (prRight n), .bool (prShifts n), .bool (prSingle n), .bool (prReset n), .bool (prClear n)] 60)).alloc (.cells #[.int .i64 t.k, .int .i64 t.a, .int .i64 t.b, .int .i64 t.c, .int .i64 t.p, .int .i64 t.n] 102)) (w.heap.size + 1) t ∧
    Below w.heap.size w ((w.alloc (.cells #[.string (prName n), .string (prHead n), v, .bool (prRight n), .bool (prShifts n), .bool (prSingle n), .bool (prReset n), .bool (prClear n)] 60)).alloc (.cells #[.int .i64 t.k, .int .i64 t.a, .int .i64 t.b, .int .i64 t.c, .int .i64 t.p, .int .i64 t.n] 102)) :=
  ⟨heap_alloc2_old _ _ _, heap_alloc2_new _ _ _, below_two _ _ _⟩
theorem SetsAt.pick {w : World} {v : Value} {n : Int} (h : SetsAt w v n) (a : Int) (a0 : 0 ≤ a) (a3 : a ≤ 3) : ∃ g c u, v = .slice (some ⟨g, 0, none⟩) 4 c ∧ w.cell? ⟨g, a.toNat, none⟩ = some u ∧ Ints .i64 w u (prSets n a) := by
  obtain ⟨g, c, v0, v1, v2, v3, rfl, c0, c1, c2, c3, i0, i1, i2, i3⟩ := h
  rcases (show a = 0 ∨ a = 1 ∨ a = 2 ∨ a = 3 by omega) with rfl | rfl | rfl | rfl
  · exact ⟨g, c, v0, rfl, c0, i0⟩
  · exact ⟨g, c, v1, rfl, c1, i1⟩
  · exact ⟨g, c, v2, rfl, c2, i2⟩
  · exact ⟨g, c, v3, rfl, c3, i3⟩
theorem prSets_few (n a : Int) : (prSets n a).length ≤ 1048576 := by
  unfold prSets prSet0 prSet1 prSet2
  repeat' split
  all_goals decide

set_option maxHeartbeats 2000000 in
theorem spec_allows7 (n : Int) (v : Value) (a b c p m : Int) (w : World) (hv : SetsAt w v n) (a0 : 0 ≤ a) (a3 : a ≤ 3) : Calls Tryz.prog 112 #[prV n v, tokV ⟨7, a, b, c, p, m⟩] w fun e w' => e = .returned (.bool (allowB n ⟨7, a, b, c, p, m⟩)) ∧ Below w.heap.size w w' := by
  have ⟨hA, hK, hb⟩ := l05_blocks w n v ⟨7, a, b, c, p, m⟩
  have HA := Lib.hid hA
  have HK := Lib.hid hK
  have B0 := Lib.hid hb
  obtain ⟨gs, cs, u, rfl, hu, hI⟩ := (hv.keep hb).pick a a0 a3
  clear hA hK hb hv
  dsimp only at HA HK B0 hu hI
  obtain ⟨j, rfl⟩ : ∃ j : Nat, a = (j : Int) := ⟨a.toNat, by omega⟩
  have hj : (j : Int) < 4 := by omega
  rw [Int.toNat_natCast] at hu
  have HE : Hid (allowB n ⟨7, (j : Int), b, c, p, m⟩ = hasB (prSets n j) (findNo b c)) := Lib.hid (by simp only [allowB, hasB]; rfl)
  have hf := prSets_few n j
  unfold prV tokV
  generalize prSets n j = zs at *
  have ⟨_, t1, t2, t3, _, _⟩ := HK.out.cells
  have ⟨p2, _, _, _, _, _⟩ := HA.out.cells
  dsimp only at t1 t2 t3
  go_enter Tryz.func112, Tryz.ntmps112
  go_wp2_with fail
  generalize (w.alloc (.cells #[.string (prName n), .string (prHead n), .slice (some ⟨gs, 0, none⟩) 4 cs, .bool (prRight n), .bool (prShifts n), .bool (prSingle n), .bool (prReset n), .bool (prClear n)] 60)).alloc (.cells #[.int .i64 7, .int .i64 (j : Int), .int .i64 b, .int .i64 c, .int .i64 p, .int .i64 m] 102) = W0 at *
  have m1 := cell_regrown t1
  have m2 := cell_regrown t2
  have m3 := cell_regrown t3
  have m4 := cell_regrown p2
  have m5 := cell_regrown hu
  have cF : ∀ d os, Calls Tryz.prog 111 #[.int .i64 b, .int .i64 c] (grow (redrawn W0 d) os) fun e w'' => e = .returned (.int .i64 (findNo b c)) ∧ ∃ p : Regrown, w'' = grow (redrawn W0 p.d) p.os := fun d os => Calls.regrown_of (spec_l02Find b c _)
  have cI : ∀ d os, Calls Tryz.prog 150 #[u, .int .i64 (findNo b c)] (grow (redrawn W0 d) os) fun e w'' => e = .returned (.bool (hasB zs (findNo b c))) ∧ ∃ p : Regrown, w'' = grow (redrawn W0 p.d) p.os := fun d os => Calls.regrown_of ((spec_l05In u zs _ _ (hI.keep (below_regrown W0 d os)) hf).mono fun e w' ⟨h1, h2⟩ => ⟨h1, h2 ▸ Below.refl _ _⟩)
  generalize findNo b c = fb at *
  clear t1 t2 t3 p2 hu hf
  refine wp_region_quiet_below (by kernel_rfl) (by kernel_rfl) ?_
  repeat (quiet_step (first | exact cF _ _ | exact cI _ _))
  refine wpQuiet_nil ?_
  intro w' hw'
  obtain ⟨⟨dq, osq⟩, hw''⟩ := hw'
  have B9 : Hid (Below w.heap.size w w') := Lib.hid (by rw [hw'']; exact B0.out.trans ((below_regrown W0 dq osq).mono B0.out.size))
  clear m1 m2 m3 m4 m5 cF cI hw''
  go_wp2
  go_ret
  exact ⟨ret_bool HE.out.symm, B9.out⟩

/- l05Allows at a kind. -/
set_option maxHeartbeats 1000000 in
theorem spec_allows1 (n : Int) (v : Value) (a b c p m : Int) (w : World) : Calls Tryz.prog 112 #[prV n v, tokV ⟨1, a, b, c, p, m⟩] w fun e w' => e = .returned (.bool (allowB n ⟨1, a, b, c, p, m⟩)) ∧ Below w.heap.size w w' := by
  have ⟨_, _, hb⟩ := l05_blocks w n v ⟨1, a, b, c, p, m⟩
  have B0 := Lib.hid hb
  clear hb
  dsimp only at B0
  have HE : Hid (allowB n ⟨1, a, b, c, p, m⟩ = decide (a < 128)) := Lib.hid (by simp only [allowB]; rfl)
  generalize allowB n ⟨1, a, b, c, p, m⟩ = q at *
  unfold prV tokV
  go_enter Tryz.func112, Tryz.ntmps112
  go_wp2
  go_ret
  exact ⟨ret_bool HE.out.symm, B0.out⟩

set_option maxHeartbeats 1000000 in
theorem spec_allows2 (n : Int) (v : Value) (a b c p m : Int) (w : World) : Calls Tryz.prog 112 #[prV n v, tokV ⟨2, a, b, c, p, m⟩] w fun e w' => e = .returned (.bool (allowB n ⟨2, a, b, c, p, m⟩)) ∧ Below w.heap.size w w' := by
  have ⟨_, _, hb⟩ := l05_blocks w n v ⟨2, a, b, c, p, m⟩
  have B0 := Lib.hid hb
  clear hb
  dsimp only at B0
  have HE : Hid (allowB n ⟨2, a, b, c, p, m⟩ = true) := Lib.hid (by simp only [allowB]; rfl)
  generalize allowB n ⟨2, a, b, c, p, m⟩ = q at *
  unfold prV tokV
  go_enter Tryz.func112, Tryz.ntmps112
  go_wp2
  go_ret
  exact ⟨ret_bool HE.out.symm, B0.out⟩

set_option maxHeartbeats 1000000 in
theorem spec_allows3 (n : Int) (v : Value) (a b c p m : Int) (w : World) : Calls Tryz.prog 112 #[prV n v, tokV ⟨3, a, b, c, p, m⟩] w fun e w' => e = .returned (.bool (allowB n ⟨3, a, b, c, p, m⟩)) ∧ Below w.heap.size w w' := by
  have ⟨_, _, hb⟩ := l05_blocks w n v ⟨3, a, b, c, p, m⟩
  have B0 := Lib.hid hb
  clear hb
  dsimp only at B0
  have HE : Hid (allowB n ⟨3, a, b, c, p, m⟩ = true) := Lib.hid (by simp only [allowB]; rfl)
  generalize allowB n ⟨3, a, b, c, p, m⟩ = q at *
  unfold prV tokV
  go_enter Tryz.func112, Tryz.ntmps112
  go_wp2
  go_ret
  exact ⟨ret_bool HE.out.symm, B0.out⟩

set_option maxHeartbeats 1000000 in
theorem spec_allows4 (n : Int) (v : Value) (a b c p m : Int) (w : World) : Calls Tryz.prog 112 #[prV n v, tokV ⟨4, a, b, c, p, m⟩] w fun e w' => e = .returned (.bool (allowB n ⟨4, a, b, c, p, m⟩)) ∧ Below w.heap.size w w' := by
  have ⟨_, _, hb⟩ := l05_blocks w n v ⟨4, a, b, c, p, m⟩
  have B0 := Lib.hid hb
  clear hb
  dsimp only at B0
  have HE : Hid (allowB n ⟨4, a, b, c, p, m⟩ = prRight n) := Lib.hid (by simp only [allowB]; rfl)
  generalize allowB n ⟨4, a, b, c, p, m⟩ = q at *
  unfold prV tokV
  go_enter Tryz.func112, Tryz.ntmps112
  go_wp2
  go_ret
  exact ⟨ret_bool HE.out.symm, B0.out⟩

set_option maxHeartbeats 1000000 in
theorem spec_allows5 (n : Int) (v : Value) (a b c p m : Int) (w : World) : Calls Tryz.prog 112 #[prV n v, tokV ⟨5, a, b, c, p, m⟩] w fun e w' => e = .returned (.bool (allowB n ⟨5, a, b, c, p, m⟩)) ∧ Below w.heap.size w w' := by
  have ⟨_, _, hb⟩ := l05_blocks w n v ⟨5, a, b, c, p, m⟩
  have B0 := Lib.hid hb
  clear hb
  dsimp only at B0
  cases h : prShifts n
  · have HE : Hid (allowB n ⟨5, a, b, c, p, m⟩ = false) := Lib.hid (by simp only [allowB, h]; rfl)
    generalize allowB n ⟨5, a, b, c, p, m⟩ = q at *
    unfold prV tokV
    rw [h] at B0 ⊢
    go_enter Tryz.func112, Tryz.ntmps112
    go_wp2
    go_ret
    exact ⟨ret_bool HE.out.symm, B0.out⟩
  · have HE : Hid (allowB n ⟨5, a, b, c, p, m⟩ = decide (a < 2)) := Lib.hid (by simp only [allowB, h]; rfl)
    generalize allowB n ⟨5, a, b, c, p, m⟩ = q at *
    unfold prV tokV
    rw [h] at B0 ⊢
    go_enter Tryz.func112, Tryz.ntmps112
    go_wp2
    go_ret
    exact ⟨ret_bool HE.out.symm, B0.out⟩

set_option maxHeartbeats 1000000 in
theorem spec_allows6 (n : Int) (v : Value) (a b c p m : Int) (w : World) : Calls Tryz.prog 112 #[prV n v, tokV ⟨6, a, b, c, p, m⟩] w fun e w' => e = .returned (.bool (allowB n ⟨6, a, b, c, p, m⟩)) ∧ Below w.heap.size w w' := by
  have ⟨_, _, hb⟩ := l05_blocks w n v ⟨6, a, b, c, p, m⟩
  have B0 := Lib.hid hb
  clear hb
  dsimp only at B0
  cases h : prSingle n
  · have HE : Hid (allowB n ⟨6, a, b, c, p, m⟩ = false) := Lib.hid (by simp only [allowB, h]; rfl)
    generalize allowB n ⟨6, a, b, c, p, m⟩ = q at *
    unfold prV tokV
    rw [h] at B0 ⊢
    go_enter Tryz.func112, Tryz.ntmps112
    go_wp2
    go_ret
    exact ⟨ret_bool HE.out.symm, B0.out⟩
  · by_cases h2 : a = 2
    · have HE : Hid (allowB n ⟨6, a, b, c, p, m⟩ = (m == 2)) := Lib.hid (by simp only [allowB, h, h2]; rfl)
      generalize allowB n ⟨6, a, b, c, p, m⟩ = q at *
      unfold prV tokV
      rw [h] at B0 ⊢
      have e2 : (a == 2) = true := by simp [h2]
      clear h2
      go_enter Tryz.func112, Tryz.ntmps112
      go_wp2
      go_ret
      exact ⟨ret_bool HE.out.symm, B0.out⟩
    · have HE : Hid (allowB n ⟨6, a, b, c, p, m⟩ = false) := Lib.hid (by simp [allowB, h, h2])
      generalize allowB n ⟨6, a, b, c, p, m⟩ = q at *
      unfold prV tokV
      rw [h] at B0 ⊢
      have e2 : (a == 2) = false := by simp [h2]
      go_enter Tryz.func112, Tryz.ntmps112
      go_wp2
      go_ret
      exact ⟨ret_bool HE.out.symm, B0.out⟩

set_option maxHeartbeats 1000000 in
theorem spec_allows8 (n : Int) (v : Value) (a b c p m : Int) (w : World) : Calls Tryz.prog 112 #[prV n v, tokV ⟨8, a, b, c, p, m⟩] w fun e w' => e = .returned (.bool (allowB n ⟨8, a, b, c, p, m⟩)) ∧ Below w.heap.size w w' := by
  have ⟨_, _, hb⟩ := l05_blocks w n v ⟨8, a, b, c, p, m⟩
  have B0 := Lib.hid hb
  clear hb
  dsimp only at B0
  have HE : Hid (allowB n ⟨8, a, b, c, p, m⟩ = false) := Lib.hid (by simp only [allowB]; rfl)
  generalize allowB n ⟨8, a, b, c, p, m⟩ = q at *
  unfold prV tokV
  go_enter Tryz.func112, Tryz.ntmps112
  go_wp2
  go_ret
  exact ⟨ret_bool HE.out.symm, B0.out⟩

set_option maxHeartbeats 1000000 in
theorem spec_allows9 (n : Int) (v : Value) (a b c p m : Int) (w : World) : Calls Tryz.prog 112 #[prV n v, tokV ⟨9, a, b, c, p, m⟩] w fun e w' => e = .returned (.bool (allowB n ⟨9, a, b, c, p, m⟩)) ∧ Below w.heap.size w w' := by
  have ⟨_, _, hb⟩ := l05_blocks w n v ⟨9, a, b, c, p, m⟩
  have B0 := Lib.hid hb
  clear hb
  dsimp only at B0
  have HE : Hid (allowB n ⟨9, a, b, c, p, m⟩ = false) := Lib.hid (by simp only [allowB]; rfl)
  generalize allowB n ⟨9, a, b, c, p, m⟩ = q at *
  unfold prV tokV
  go_enter Tryz.func112, Tryz.ntmps112
  go_wp2
  go_ret
  exact ⟨ret_bool HE.out.symm, B0.out⟩

theorem spec_l05Allows (n : Int) (v : Value) (t : Tok) (w : World) (hv : SetsAt w v n) (ht : tokLP t) : Calls Tryz.prog 112 #[prV n v, tokV t] w fun e w' => e = .returned (.bool (allowB n t)) ∧ Below w.heap.size w w' := by
  obtain ⟨k, a, b, c, p, m⟩ := t
  obtain ⟨_, h⟩ := ht
  dsimp only at h
  rcases h with ⟨rfl, _⟩ | ⟨rfl, _⟩ | ⟨rfl, _⟩ | ⟨rfl, _⟩ | ⟨rfl, _⟩ | ⟨rfl, _⟩ | ⟨rfl, a0, a3, _⟩ | ⟨rfl | rfl, _⟩
  · exact spec_allows1 n v a b c p m w
  · exact spec_allows2 n v a b c p m w
  · exact spec_allows3 n v a b c p m w
  · exact spec_allows4 n v a b c p m w
  · exact spec_allows5 n v a b c p m w
  · exact spec_allows6 n v a b c p m w
  · exact spec_allows7 n v a b c p m w hv a0 a3
  · exact spec_allows8 n v a b c p m w
  · exact spec_allows9 n v a b c p m w

end Go.Proofs.YtbamjhldebobhaaGreatDoor

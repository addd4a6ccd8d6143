/- The program's EscapeOf over its own table. -/
import Derived.Test.YtbamjhldebobhaaDoorSetsT
import Derived.Test.YtbamjhldebobhaaDoorEscA
namespace Go.Proofs.YtbamjhldebobhaaDoor
open Go.RowKit

def regB (kd g : Int) : Bool := inB g 0 3 && !(decide (kd = 2) && decide (g = 0))
theorem impl_isRegisterFor (kd g : Int) (w : World) : Calls Tryd.prog 66 #[.int .i64 kd, .int .i64 g] w fun e w' => e = .returned (.bool (regB kd g)) ∧ w = w' := by
  by_cases h2 : kd = 2
  · subst h2
    by_cases h0 : g = 0
    · subst h0
      go_enter Tryd.func66, Tryd.ntmps66
      go_wp2
      go_ret
      exact ⟨rfl, rfl⟩
    · have HE : Hid (regB 2 g = inB g 0 3) := Lib.hid (by simp [regB, h0])
      have e0 : (g == 0) = false := by rw [beq_eq_false_iff_ne]; exact h0
      rw [HE.out]
      clear h0
      by_cases h1 : 0 ≤ g
      · by_cases h3 : g ≤ 3
        all_goals
          have HF := Lib.hid (show inB g 0 3 = decide (g ≤ 3) by simp [inB, h1])
          go_enter Tryd.func66, Tryd.ntmps66
          go_wp2
          go_ret
          exact ⟨ret_bool (by rw [HF.out]; simp [h3]), rfl⟩
      · have HF := Lib.hid (show inB g 0 3 = false by simp [inB, h1])
        go_enter Tryd.func66, Tryd.ntmps66
        go_wp2
        go_ret
        exact ⟨ret_bool HF.out.symm, rfl⟩
  · have HE : Hid (regB kd g = inB g 0 3) := Lib.hid (by simp [regB, h2])
    have e0 : (kd == 2) = false := by rw [beq_eq_false_iff_ne]; exact h2
    rw [HE.out]
    clear h2
    by_cases h1 : 0 ≤ g
    · by_cases h3 : g ≤ 3
      all_goals
        have HF := Lib.hid (show inB g 0 3 = decide (g ≤ 3) by simp [inB, h1])
        go_enter Tryd.func66, Tryd.ntmps66
        go_wp2
        go_ret
        exact ⟨ret_bool (by rw [HF.out]; simp [h3]), rfl⟩
    · have HF := Lib.hid (show inB g 0 3 = false by simp [inB, h1])
      go_enter Tryd.func66, Tryd.ntmps66
      go_wp2
      go_ret
      exact ⟨ret_bool HF.out.symm, rfl⟩

theorem bs_app (a b : List Int) : bs a ++ bs b = bs (a ++ b) := by
  apply ByteArray.ext
  simp [bs, ByteArray.data_append]
theorem par94_bs (g : Nat) (h : g < 4) : par94.extract g (g + 1) = bs [40 + (g : Int)] := by
  have : g = 0 ∨ g = 1 ∨ g = 2 ∨ g = 3 := by omega
  rcases this with rfl | rfl | rfl | rfl <;> decide
theorem par96_bs (g : Nat) (h0 : 0 < g) (h : g < 4) : par96.extract g (g + 1) = bs [44 + (g : Int)] := by
  have : g = 1 ∨ g = 2 ∨ g = 3 := by omega
  rcases this with rfl | rfl | rfl <;> decide
theorem bs36 : (⟨#[36]⟩ : ByteArray) = bs [36] := by decide
theorem escB_94 (g : Nat) (fi : Int) (h : g < 4) : escB g 1 fi = bs ([27] ++ [40 + (g : Int)] ++ [fi]) := by
  simp only [escB, if_true, par94_bs g h, bs_app]
theorem escB_96 (g : Nat) (fi : Int) (h0 : 0 < g) (h : g < 4) : escB g 2 fi = bs ([27] ++ [44 + (g : Int)] ++ [fi]) := by
  rw [escB, if_neg (by decide), if_pos rfl, par96_bs g h0 h, bs_app, bs_app]
theorem escB_s (fi : Int) (h : fi ≤ 66) : escB 0 3 fi = bs ([27] ++ [36] ++ [fi]) := by
  rw [escB, if_neg (by decide), if_neg (by decide), if_pos ⟨rfl, h⟩, bs36, bs_app, bs_app]
theorem escB_p (g : Nat) (fi : Int) (h : g < 4) (h66 : ¬ (g = 0 ∧ fi ≤ 66)) : escB g 3 fi = bs ([27] ++ [36] ++ [40 + (g : Int)] ++ [fi]) := by
  rw [escB, if_neg (by decide), if_neg (by decide), if_neg h66, par94_bs g h, bs36, bs_app, bs_app, bs_app]

theorem eoC_reg (g n : Int) (hn : setB n = true) : eoC g n = if regB (setKind n) g = true then 0 else 4 := by
  unfold eoC regB
  rw [if_pos hn]
  by_cases hi : inB g 0 3 = true
  · by_cases h2 : setKind n = 2 <;> by_cases h0 : g = 0 <;> simp [h2, h0, hi] <;> (subst h0; simp at hi; simp [hi])
  · have hf : inB g 0 3 = false := by simpa using hi
    simp [hf]

set_option maxHeartbeats 4000000 in
set_option maxRecDepth 100000 in
theorem impl_EscapeOf (g n : Int) (w : World) (ht : TabSets w) : Calls Tryd.prog 37 #[.int .i64 g, .int .i64 n] w fun e w' => e = .returned (eoV g n) ∧ Below w.heap.size w w' := by
  cases hn : setB n
  · have HE := Lib.hid (eoV_bad g n 5 (by simp [eoC, hn]) (by decide))
    clear ht
    go_enter Tryd.func37, Tryd.ntmps37
    go_wp2_with fail
    refine (impl_isSet n w).mono ?_
    rintro e w1 ⟨rfl, rfl⟩
    rw [hn]
    go_wp2
    go_ret2
    exact ⟨ret_val HE.out.symm, Below.refl _ _⟩
  have HC := Lib.hid (eoC_reg g n hn)
  obtain ⟨k, rfl, k1, k8⟩ := setB_nat hn
  obtain ⟨_, c1, c2, _⟩ := ht k k1 k8
  clear ht
  have u1 : (0 : Int) ≤ (k : Int) := by omega
  have u2 : (k : Int) < 9 := by omega
  have hk := setKind_in (k : Int)
  have ⟨f0, f1⟩ := setFinal_range (k : Int)
  have HV := Lib.hid (eoV_ok g (k : Int))
  generalize setKind (k : Int) = kd at *
  generalize setFinal (k : Int) = fi at *
  have uf : IntKind.u8.wrap fi = fi := by
    have : fi = 65 ∨ fi = 66 ∨ fi = 67 ∨ fi = 68 ∨ fi = 69 ∨ fi = 70 ∨ fi = 71 ∨ fi = 72 ∨ fi = 73 ∨ fi = 74 := by omega
    rcases this with h | h | h | h | h | h | h | h | h | h <;> rw [h] <;> rfl
  cases hr : regB kd g
  · have HE := Lib.hid (eoV_bad g (k : Int) 4 (by rw [HC.out, hr]; rfl) (by decide))
    go_enter Tryd.func37, Tryd.ntmps37
    go_wp2_with fail
    refine (impl_isSet (k : Int) w).mono ?_
    rintro e w1 ⟨rfl, rfl⟩
    rw [hn]
    go_wp2
    go_quiet (fail)
    go_wp2_with fail
    refine (impl_isRegisterFor kd g _).mono ?_
    rintro e w1 ⟨rfl, rfl⟩
    rw [hr]
    go_wp2
    go_ret2
    exact ⟨ret_val HE.out.symm, below_drewN (Below.refl _ _) _⟩
  have HE := Lib.hid (HV.out (by rw [HC.out, hr]; rfl))
  have hr2 : 0 ≤ g ∧ g ≤ 3 ∧ ¬ (kd = 2 ∧ g = 0) := by
    simp [regB, inB] at hr
    omega
  clear HV HC
  obtain ⟨g0, g3, g2⟩ := hr2
  obtain ⟨m, rfl⟩ := Int.eq_ofNat_of_zero_le g0
  rw [Int.toNat_natCast] at HE
  have hm : m < 4 := by omega
  go_enter Tryd.func37, Tryd.ntmps37
  go_wp2_with fail
  refine (impl_isSet (k : Int) w).mono ?_
  rintro e w1 ⟨rfl, rfl⟩
  rw [hn]
  go_wp2
  go_quiet (fail)
  go_wp2_with fail
  refine (impl_isRegisterFor kd (m : Int) _).mono ?_
  rintro e w1 ⟨rfl, rfl⟩
  rw [hr]
  have bw : Below w.heap.size w (w.drewN nq) := below_drewN (Below.refl _ _) nq
  generalize w.drewN nq = w0 at *
  have hs0 := bw.size
  clear c1 c2
  have o0 : Own .u8 5 (w0.alloc (.cells #[.int .u8 27] 5)) w.heap.size (.slice (some ⟨w0.heap.size, 0, none⟩) 1 1) [27] := Own.lit .u8 5 w0 w.heap.size [27] hs0 (by decide)
  have b0 : Below w.heap.size w (w0.alloc (.cells #[.int .u8 27] 5)) := bw.alloc hs0 _
  rcases hk with rfl | rfl | rfl
  · rw [escB_94 m fi hm] at HE
    have : m = 0 ∨ m = 1 ∨ m = 2 ∨ m = 3 := by omega
    rcases this with rfl | rfl | rfl | rfl
    all_goals
      go_wp2_with (at_builtin; refine app_u8 _ rfl _ _ rfl w.heap.size _ [27] rfl (o0.alloc _) ⟨w0.heap.size + 1, 0, none⟩ 1 1 [_] rfl rfl (by decide) (World.news_of_block (heap_alloc2_new _ _ _)) (by decide) (by simp; omega) ?_)
      intro g1 cap1 w1 o1 gr1 lt1
      have b1 : Below w.heap.size w w1 := (b0.alloc b0.size _).grown gr1 (by simp; omega) (fun j hj => (World.ownsRow.lt o0 j hj).1)
      clear o0 b0 gr1
      have hsz := b1.size
      go_wp2_with (at_builtin; refine app_u8 _ rfl _ _ rfl w.heap.size _ _ rfl (o1.alloc _) ⟨w1.heap.size, 0, none⟩ 1 1 [fi] rfl rfl (by decide) (World.news_of_block (heap_alloc_new _ _)) (by simp) (by simp; omega) ?_)
      intro g9 cap9 w9 o9 gr9 lt9
      have cv := conv_own o9
      have b9 : Below w.heap.size w w9 := (b1.alloc b1.size _).grown gr9 (by simp; omega) (fun j hj => (World.ownsRow.lt o1 j hj).1)
      clear o1 b1 gr9 o9
      go_wp2
      go_ret2
      exact ⟨ret_val HE.out.symm, b9⟩
      
  · have hm0 : 0 < m := by omega
    rw [escB_96 m fi hm0 hm] at HE
    have : m = 1 ∨ m = 2 ∨ m = 3 := by omega
    rcases this with rfl | rfl | rfl
    all_goals
      go_wp2_with (at_builtin; refine app_u8 _ rfl _ _ rfl w.heap.size _ [27] rfl (o0.alloc _) ⟨w0.heap.size + 1, 0, none⟩ 1 1 [_] rfl rfl (by decide) (World.news_of_block (heap_alloc2_new _ _ _)) (by decide) (by simp; omega) ?_)
      intro g1 cap1 w1 o1 gr1 lt1
      have b1 : Below w.heap.size w w1 := (b0.alloc b0.size _).grown gr1 (by simp; omega) (fun j hj => (World.ownsRow.lt o0 j hj).1)
      clear o0 b0 gr1
      have hsz := b1.size
      go_wp2_with (at_builtin; refine app_u8 _ rfl _ _ rfl w.heap.size _ _ rfl (o1.alloc _) ⟨w1.heap.size, 0, none⟩ 1 1 [fi] rfl rfl (by decide) (World.news_of_block (heap_alloc_new _ _)) (by simp) (by simp; omega) ?_)
      intro g9 cap9 w9 o9 gr9 lt9
      have cv := conv_own o9
      have b9 : Below w.heap.size w w9 := (b1.alloc b1.size _).grown gr9 (by simp; omega) (fun j hj => (World.ownsRow.lt o1 j hj).1)
      clear o1 b1 gr9 o9
      go_wp2
      go_ret2
      exact ⟨ret_val HE.out.symm, b9⟩
      
  · by_cases h66 : m = 0 ∧ fi ≤ 66
    · obtain ⟨rfl, h66⟩ := h66
      rw [escB_s fi h66] at HE
      go_wp2_with (at_builtin; refine app_u8 _ rfl _ _ rfl w.heap.size _ [27] rfl (o0.alloc _) ⟨w0.heap.size + 1, 0, none⟩ 1 1 [_] rfl rfl (by decide) (World.news_of_block (heap_alloc2_new _ _ _)) (by decide) (by simp; omega) ?_)
      intro g1 cap1 w1 o1 gr1 lt1
      have b1 : Below w.heap.size w w1 := (b0.alloc b0.size _).grown gr1 (by simp; omega) (fun j hj => (World.ownsRow.lt o0 j hj).1)
      clear o0 b0 gr1
      have hsz := b1.size
      go_wp2_with (at_builtin; refine app_u8 _ rfl _ _ rfl w.heap.size _ _ rfl (o1.alloc _) ⟨w1.heap.size, 0, none⟩ 1 1 [fi] rfl rfl (by decide) (World.news_of_block (heap_alloc_new _ _)) (by simp) (by simp; omega) ?_)
      intro g9 cap9 w9 o9 gr9 lt9
      have cv := conv_own o9
      have b9 : Below w.heap.size w w9 := (b1.alloc b1.size _).grown gr9 (by simp; omega) (fun j hj => (World.ownsRow.lt o1 j hj).1)
      clear o1 b1 gr9 o9
      go_wp2
      go_ret2
      exact ⟨ret_val HE.out.symm, b9⟩
      
    · rw [escB_p m fi hm h66] at HE
      have : (m = 0 ∧ 66 < fi) ∨ m = 1 ∨ m = 2 ∨ m = 3 := by omega
      rcases this with ⟨rfl, h67⟩ | rfl | rfl | rfl
      all_goals
        clear h66
        go_wp2_with (at_builtin; refine app_u8 _ rfl _ _ rfl w.heap.size _ [27] rfl (o0.alloc _) ⟨w0.heap.size + 1, 0, none⟩ 1 1 [_] rfl rfl (by decide) (World.news_of_block (heap_alloc2_new _ _ _)) (by decide) (by simp; omega) ?_)
        intro g1 cap1 w1 o1 gr1 lt1
        have b1 : Below w.heap.size w w1 := (b0.alloc b0.size _).grown gr1 (by simp; omega) (fun j hj => (World.ownsRow.lt o0 j hj).1)
        clear o0 b0 gr1
        have hsy := b1.size
        go_wp2_with (at_builtin; refine app_u8 _ rfl _ _ rfl w.heap.size _ _ rfl (o1.alloc _) ⟨w1.heap.size, 0, none⟩ 1 1 [_] rfl rfl (by decide) (World.news_of_block (heap_alloc_new _ _)) (by simp) (by simp; omega) ?_)
        intro g2 cap2 w2 o2 gr2 lt2
        have b2 : Below w.heap.size w w2 := (b1.alloc b1.size _).grown gr2 (by simp; omega) (fun j hj => (World.ownsRow.lt o1 j hj).1)
        clear o1 b1 gr2
        have hsz := b2.size
        go_wp2_with (at_builtin; refine app_u8 _ rfl _ _ rfl w.heap.size _ _ rfl (o2.alloc _) ⟨w2.heap.size, 0, none⟩ 1 1 [fi] rfl rfl (by decide) (World.news_of_block (heap_alloc_new _ _)) (by simp) (by simp; omega) ?_)
        intro g9 cap9 w9 o9 gr9 lt9
        have cv := conv_own o9
        have b9 : Below w.heap.size w w9 := (b2.alloc b2.size _).grown gr9 (by simp; omega) (fun j hj => (World.ownsRow.lt o2 j hj).1)
        clear o2 b2 gr9 o9
        go_wp2
        go_ret2
        exact ⟨ret_val HE.out.symm, b9⟩
        
end Go.Proofs.YtbamjhldebobhaaDoor

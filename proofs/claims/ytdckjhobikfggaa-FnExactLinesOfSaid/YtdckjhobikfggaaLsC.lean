/- The program's LinesOf. -/
import Derived.Test.YtdckjhobikfggaaLsB
namespace Go.Proofs.Ytdckjhobikfggaa
open Go.RowKit

theorem ints_cells {w : World} {b off n c : Nat} {zs : List Int} (h : Ints .i64 w (.slice (some ⟨b, off, none⟩) n c) zs) (hn : n = zs.length) : ∀ i, i < n → w.cell? ⟨b, off + i, none⟩ = some (.int .i64 (zs.getD i 0)) := by
  intro i hi
  rcases h with ⟨rfl, _⟩ | ⟨b', off', c', hv, hc⟩
  · subst hn; exact absurd hi (by simp)
  · injection hv with h1 _ _
    injection h1 with h1
    injection h1 with e1 e2 _
    subst e1 e2
    exact hc i (by omega)

set_option maxHeartbeats 1000000 in
theorem sl_Index (b off c : Nat) (zs : List Int) (w : World) (hc : ∀ i, i < zs.length → w.cell? ⟨b, off + i, none⟩ = some (.int .i64 (zs.getD i 0))) (hl : zs.length ≤ 4096) (h0 : 0 < zs.length) :
    Calls Try.prog 24 #[.slice (some ⟨b, off, none⟩) zs.length c, .int .i64 10] w fun e w' => (∃ m : Int, e = .returned (.int .i64 m) ∧ ((m = -1 ∧ cutL zs = zs.length) ∨ (m + 1 = (cutL zs : Int)))) ∧ w = w' := by
  have HC := Lib.hid hc
  clear hc
  generalize hn : zs.length = n at *
  have HN := Lib.hid hn
  clear hn
  go_enter Try.func24, Try.ntmps24
  go_wp2
  go_loop [5, 8] (fun _ i => ∃ k : Nat, k ≤ n ∧ i = .int .i64 k ∧ Hid (∀ j, j < k → zs.getD j 0 ≠ 10)) (fun _ i => n - (intOf i).toNat)
  case atStart => exact ⟨0, Nat.zero_le _, rfl, Lib.hid (fun j hj => absurd hj (by omega))⟩
  case round =>
    obtain ⟨k, hk, rfl, HJ⟩ := hrel
    by_cases hlt : k < n
    · have c1 := HC.out k hlt
      have v1 : (0 : Int) ≤ (k : Int) := by omega
      have v2 : (k : Int) < (n : Int) := by omega
      generalize hx : zs.getD k 0 = x at c1
      have HX := Lib.hid hx
      clear hx
      by_cases hr : x = 10
      · have er : ((10 : Int) == x) = true := by simp [hr]
        have HE : Hid ((k : Int) + 1 = (cutL zs : Int)) := Lib.hid (by rw [cutL_at zs k (by have := HN.out; omega) HJ.out (by rw [HX.out, hr])]; rfl)
        go_wp2
        go_ret
        exact ⟨⟨_, rfl, .inr HE.out⟩, rfl⟩
      · have er : ((10 : Int) == x) = false := by rw [beq_eq_false_iff_ne]; exact fun h => hr h.symm
        go_wp2
        go_round
        case rel => exact ⟨k + 1, by omega, by go_num, Lib.hid (fun j hj => by
          by_cases h : j = k
          · subst h; rw [HX.out]; exact hr
          · exact HJ.out j (by omega))⟩
        case measure => simp [intOf]; omega
    · have HE : Hid (cutL zs = n) := Lib.hid (by
        have h1 := cutL_none zs k (by have := HN.out; omega) HJ.out
        have h2 := cutL_le zs
        have := HN.out
        omega)
      go_wp2
      go_ret
      exact ⟨⟨_, rfl, .inl ⟨rfl, HE.out⟩⟩, rfl⟩

set_option maxHeartbeats 1000000 in
theorem sl_Clone (b off c : Nat) (zs : List Int) (w : World) (hc : ∀ i, i < zs.length → w.cell? ⟨b, off + i, none⟩ = some (.int .i64 (zs.getD i 0))) (hl : zs.length ≤ 4096) (h0 : 0 < zs.length) :
    Calls Try.prog 25 #[.slice (some ⟨b, off, none⟩) zs.length c] w fun e w' => ∃ a cp, e = .returned (.slice a zs.length cp) ∧ Own .i64 3 w' w.heap.size (.slice a zs.length cp) zs ∧ Below w.heap.size w w' := by
  have OA := Lib.hid (Own.lit .i64 3 w w.heap.size [] (Nat.le_refl _) (by decide))
  have B0 : Hid (Below w.heap.size w (w.alloc (.cells #[] 3))) := Lib.hid ((Below.refl _ _).alloc (Nat.le_refl _) _)
  have HNW : Hid (∀ j u, (zs.map (Value.int .i64))[j]? = some u → (w.alloc (.cells #[] 3)).cell? ((⟨b, off, none⟩ : Addr).add j) = some u) := Lib.hid (by
    intro j u hu
    have hj : j < zs.length := by
      rw [List.getElem?_map] at hu
      cases hz : zs[j]? with
      | none => rw [hz] at hu; cases hu
      | some q => exact (List.getElem?_eq_some_iff.1 hz).1
    rw [add_off, cell_since B0.out (hc j hj)]
    simp [List.getD, hj] at hu ⊢
    exact hu)
  clear hc
  have hq : ∀ w, (binOp BinOp.eql 22 (.slice (some ⟨b, off, none⟩) zs.length c) (.slice none 0 0)).run Try.prog w = .ok (.bool false) w := fun _ => by kernel_rfl
  go_enter Try.func25, Try.ntmps25
  go_wp2_with (at_builtin; refine app_i64 _ rfl _ _ rfl w.heap.size _ [] rfl OA.out ⟨b, off, none⟩ zs.length c zs rfl rfl h0 HNW.out (by simp; omega) (by simp) ?_)
  intro g cap w4 o4 g4 _
  have O4 := Lib.hid o4
  have B4 := Lib.hid (B0.out.grown g4 (by simp) (fun j hj => (World.ownsRow.lt OA.out j hj).1))
  clear o4 g4 OA B0 HNW
  go_wp2
  go_ret
  exact ⟨_, _, rfl, O4.out, B4.out⟩

theorem sl_Index' (b off c n : Nat) (zs : List Int) (w : World) (hn : zs.length = n) (hc : ∀ i, i < n → w.cell? ⟨b, off + i, none⟩ = some (.int .i64 (zs.getD i 0))) (hl : n ≤ 4096) (h0 : 0 < n) :
    Calls Try.prog 24 #[.slice (some ⟨b, off, none⟩) n c, .int .i64 10] w fun e w' => (∃ m : Int, e = .returned (.int .i64 m) ∧ ((m = -1 ∧ cutL zs = n) ∨ (m + 1 = (cutL zs : Int)))) ∧ w = w' := by
  subst hn
  exact sl_Index b off c zs w hc hl h0
theorem sl_Clone' (b off c n : Nat) (zs : List Int) (w : World) (hn : zs.length = n) (hc : ∀ i, i < n → w.cell? ⟨b, off + i, none⟩ = some (.int .i64 (zs.getD i 0))) (hl : n ≤ 4096) (h0 : 0 < n) :
    Calls Try.prog 25 #[.slice (some ⟨b, off, none⟩) n c] w fun e w' => ∃ a cp, e = .returned (.slice a n cp) ∧ Own .i64 3 w' w.heap.size (.slice a n cp) zs ∧ Below w.heap.size w w' := by
  subst hn
  exact sl_Clone b off c zs w hc hl h0

/-- A copied line pushed. -/
theorem lns_clone {w wr w2 w4 : World} {ov u : Value} {L : List (List Int)} {l : List Int} {f : Nat → Value} {o : Obj} {v' : Value} (hB : Below w.heap.size w wr) (hL : Lns wr w.heap.size ov L f) (oc : Own .i64 3 w2 wr.heap.size u l) (b2 : Below wr.heap.size wr w2)
    (o4 : OwnV w4 w.heap.size v' ((List.range L.length).map f ++ [u])) (g4 : (w2.alloc o).grownBy w4 ov.ownBlock) : Below w.heap.size w w4 ∧ ∃ f', Lns w4 w.heap.size v' (L ++ [l]) f' := by
  have h1 := hB.size
  have hL2 := hL.all b2
  have b3 := hB.trans (b2.mono h1)
  refine ⟨(b3.alloc b3.size o).grown g4 (by have := b3.size; simp; omega) (fun j hj => (World.ownsRow.lt hL2.1 j hj).1), _, (hL2.all ((Below.refl _ _).alloc (Nat.le_refl _) o)).push ((oc.low h1).alloc o) (fun k hk b hbk he => ?_) o4 g4⟩
  have e1 := (World.ownsRow.lt (hL.2.1 k hk) b hbk).2
  have e2 := (World.ownsRow.lt oc b he).1
  omega

theorem slice_rest {g d e n c0 : Nat} (_he : e ≤ n - d) (hc : n ≤ c0) : ∃ x, Value.slice (if c0 - d = e then some ⟨g, d, none⟩ else some ⟨g, d + e, none⟩) (n - d - e) (c0 - d - e) = .slice (some ⟨g, x, none⟩) (n - (d + e)) (c0 - (d + e)) ∧ (d + e < n → x = d + e) := by
  by_cases h : c0 - d = e
  · exact ⟨d, by rw [if_pos h, Nat.sub_sub, Nat.sub_sub], by omega⟩
  · exact ⟨d + e, by rw [if_neg h, Nat.sub_sub, Nat.sub_sub], fun _ => rfl⟩
theorem slice_end {g d n c0 : Nat} (hd : d ≤ n) : ∃ x, Value.slice (if c0 - d = n - d then some ⟨g, d, none⟩ else some ⟨g, n, none⟩) 0 (c0 - d - (n - d)) = .slice (some ⟨g, x, none⟩) (n - (d + (n - d))) (c0 - (d + (n - d))) ∧ (d + (n - d) < n → x = d + (n - d)) := by
  have e1 : n - (d + (n - d)) = 0 := by omega
  have e2 : c0 - d - (n - d) = c0 - (d + (n - d)) := Nat.sub_sub _ _ _
  by_cases h : c0 - d = n - d
  · exact ⟨d, by rw [if_pos h, e1, e2], by omega⟩
  · exact ⟨n, by rw [if_neg h, e1, e2], by omega⟩

set_option maxHeartbeats 2000000 in
set_option maxRecDepth 100000 in
theorem impl_LinesOf (v : Value) (zs : List Int) (B0 : Nat) (w : World) (h : Own .i64 3 w B0 v zs) (hl : zs.length ≤ 1048576) : Calls Try.prog 12 #[v] w (LnDone zs w) := by
  have HI := Lib.hid h.ints
  obtain ⟨a0, c0, hform, hcap, hmax, hnil, hadr⟩ := h.shape
  clear h
  subst hform
  by_cases hlong : 4096 < zs.length
  · have HZ : Hid (linesZ zs = []) := Lib.hid (by rw [linesZ, if_neg (fun h => by omega)])
    have HC : Hid (linesC zs = 2) := Lib.hid (by rw [linesC, if_neg (by omega)])
    have hl2 : (4096 : Int) < (zs.length : Int) := by omega
    clear hlong hnil hadr
    go_enter Try.func12, Try.ntmps12
    go_wp2
    go_ret2
    exact LnDone.mk HZ.out HC.out rfl (Lns.nil w w.heap.size (fun _ => undef)) (Below.refl _ _)
  have hl2 : ¬ (4096 : Int) < (zs.length : Int) := by omega
  have hlong' : zs.length ≤ 4096 := by omega
  cases a0 with
  | none =>
    obtain ⟨rfl, rfl⟩ := hnil rfl
    have HZ : Hid (linesZ [] = []) := Lib.hid rfl
    have HC : Hid (linesC [] = 0) := Lib.hid rfl
    clear hnil hadr hlong
    go_enter Try.func12, Try.ntmps12
    go_wp2
    go_loop [5, 13] (fun _ i => i = .int .i64 0) (fun _ _ => 0)
    case atStart => rfl
    case round =>
      subst hrel
      go_wp2
      go_loop [0, 6, 7] (fun l o _ => l = .slice none 0 0 ∧ o = .slice none 0 0) (fun _ _ _ => 0)
      case atStart => exact ⟨rfl, rfl⟩
      case round =>
        obtain ⟨rfl, rfl⟩ := hrel
        go_wp2
        go_ret2
        exact LnDone.mk HZ.out HC.out rfl (Lns.nil w w.heap.size (fun _ => undef)) (Below.refl _ _)
  | some x =>
    obtain ⟨g, off, spot⟩ := x
    obtain ⟨rfl, rfl, _⟩ := hadr _ rfl
    have HPk : Hid (∀ W, Below w.heap.size w W → ∀ i, i < zs.length → W.cell? ⟨g, i, none⟩ = some (.int .i64 (zs.getD i 0))) := Lib.hid (fun W hW i hi => by
      have := ints_cells (HI.out.keep hW) rfl i hi
      rwa [Nat.zero_add] at this)
    clear hnil hadr hlong HI
    have HN : Hid (zs.length = zs.length) := Lib.hid rfl
    generalize hn : zs.length = n at HN hl hcap hl2 hlong' ⊢
    have HN2 := Lib.hid hn
    clear HN
    go_enter Try.func12, Try.ntmps12
    go_wp2
    go_loop [5, 13] (fun _ i => ∃ k : Nat, k ≤ n ∧ i = .int .i64 k ∧ Hid (okAll (zs.take k) = true)) (fun _ i => n - (intOf i).toNat)
    case atStart => exact ⟨0, Nat.zero_le _, rfl, Lib.hid rfl⟩
    case round =>
      obtain ⟨k, hk, rfl, HO⟩ := hrel
      by_cases hlt : k < n
      · have c1 : w.cell? ⟨g, k, none⟩ = some (.int .i64 (zs.getD k 0)) := HPk.out w (Below.refl _ _) k (by have := HN2.out; omega)
        have v1 : (0 : Int) ≤ (k : Int) := by omega
        have v2 : (k : Int) < (n : Int) := by omega
        generalize hx : zs.getD k 0 = x at c1
        have HX := Lib.hid hx
        clear hx
        by_cases hr : okB x = true
        · go_wp2_with fail
          refine (impl_RuneOK _ _).mono ?_
          rintro e w' ⟨rfl, rfl⟩
          rw [hr]
          go_wp2
          go_round
          case rel => exact ⟨k + 1, by omega, by go_num, Lib.hid (okAll_take k (by have := HN2.out; omega) HO.out (by rw [HX.out]; exact hr))⟩
          case measure => simp [intOf]; omega
        · have hr' : okB x = false := by simpa using hr
          have hok : okAll zs = false := okAll_bad k (by have := HN2.out; omega) (by rw [HX.out]; exact hr')
          have HZ : Hid (linesZ zs = []) := Lib.hid (by rw [linesZ, if_neg (fun h => by rw [hok] at h; cases h.2)])
          have HC : Hid (linesC zs = 4) := Lib.hid (by rw [linesC, if_pos (by have := HN2.out; omega), if_neg (by rw [hok]; decide)])
          clear hok hr
          go_wp2_with fail
          refine (impl_RuneOK _ _).mono ?_
          rintro e w' ⟨rfl, rfl⟩
          rw [hr']
          go_wp2
          go_ret2
          exact LnDone.mk HZ.out HC.out rfl (Lns.nil w w.heap.size (fun _ => undef)) (Below.refl _ _)
      · have hok : okAll zs = true := by have := HO.out; rwa [List.take_of_length_le (by have := HN2.out; omega)] at this
        have HZ : Hid (linesZ zs = endL (runL ([], []) zs)) := Lib.hid (by rw [linesZ, if_pos ⟨by have := HN2.out; omega, hok⟩])
        have HC : Hid (linesC zs = 0) := Lib.hid (by rw [linesC, if_pos (by have := HN2.out; omega), if_pos hok])
        clear hok HO
        go_wp2
        go_loopw [0, 6, 7] (fun l ov _ wr => ∃ (d : Nat) (L : List (List Int)), d ≤ n ∧ L.length ≤ d ∧ (∃ x, l = .slice (some ⟨g, x, none⟩) (n - d) (c0 - d) ∧ (d < n → x = d)) ∧ Hid (endL (runL ([], []) zs) = endL (runL (L, []) (zs.drop d))) ∧ Hid (∃ f, Lns wr w.heap.size ov L f) ∧ Hid (Below w.heap.size w wr)) (fun l _ _ _ => match l with | .slice _ m _ => m | _ => 0)
        case atStart => exact ⟨0, [], Nat.zero_le _, Nat.le_refl _, ⟨0, rfl, fun _ => rfl⟩, Lib.hid rfl, Lib.hid ⟨fun _ => undef, Lns.nil _ _ _⟩, Lib.hid (Below.refl _ _)⟩
        case round =>
          obtain ⟨d, L, hd, hLd, ⟨x, rfl, hx⟩, HE, HL, HB⟩ := hrel
          by_cases hdn : d < n
          · have hxd := hx hdn
            rw [hxd]
            clear hx hxd x
            obtain ⟨f, hLf⟩ := HL.out
            obtain ⟨oa, oc, hov⟩ := hLf.1.form
            rw [List.length_map, List.length_range] at hov
            subst hov
            have hHc : ∀ i, i < n - d → wr.cell? ⟨g, d + i, none⟩ = some (.int .i64 ((zs.drop d).getD i 0)) := fun i hi => by
              have := HPk.out wr HB.out (d + i) (by have := HN2.out; omega)
              rw [this]
              simp [List.getD]
            have hlen : (zs.drop d).length = n - d := by rw [List.length_drop, HN2.out]
            have v1 : (0 : Int) < ((n - d : Nat) : Int) := by omega
            have hcl := cutL_le (zs.drop d)
            rw [hlen] at hcl
            have hcp := cutL_pos (zs := zs.drop d) (fun h => by rw [h] at hlen; simp at hlen; omega)
            have HIx := Lib.hid (sl_Index' g d (c0 - d) (n - d) (zs.drop d) wr hlen hHc (by omega) (by omega))
            have HCl := Lib.hid (sl_Clone' g d (c0 - d) (cutL (zs.drop d)) ((zs.drop d).take (cutL (zs.drop d))) wr (by rw [List.length_take]; omega) (fun i hi => by
              rw [hHc i (by omega)]
              simp [List.getD, hi]) (by omega) hcp)
            have hLB := HB.out.size
            have HNx : Hid (endL (runL ([], []) zs) = endL (runL (L ++ [(zs.drop d).take (cutL (zs.drop d))], []) (zs.drop (d + cutL (zs.drop d))))) := Lib.hid (by
              rw [HE.out, runL_cut (zs.drop d) L [] (fun h => by rw [h] at hlen; simp at hlen; omega), List.nil_append, List.drop_drop])
            generalize cutL (zs.drop d) = e at *
            generalize (zs.drop d).take e = l at *
            clear hHc hlen HE
            have w1 : IntKind.i64.wrap ((e : Int) - 1 + 1) = (e : Int) := (IntWalk.i64_in ((e : Int) - 1 + 1) (by omega)).trans (by omega)
            have ee : ((e : Int) == 0) = false := by rw [beq_eq_false_iff_ne]; omega
            go_wp2_with fail
            refine HIx.out.mono ?_
            rintro _ _ ⟨⟨m, rfl, hm⟩, rfl⟩
            rcases hm with ⟨rfl, he⟩ | hm
            · subst he
              have v3 : (0 : Int) ≤ ((n - d : Nat) : Int) := by omega
              have v4 : ((n - d : Nat) : Int) ≤ ((c0 - d : Nat) : Int) := by omega
              go_wp2_with fail
              refine HCl.out.mono ?_
              rintro _ w2 ⟨ca, cp, rfl, ow, b2⟩
              have OV := Lib.hid ((hLf.1.all b2).all ((Below.refl w2.heap.size w2).alloc (Nat.le_refl _) (.cells #[.slice ca (n - d) cp] 22)))
              have hA4 : Hid ((w2.alloc (.cells #[.slice ca (n - d) cp] 22)).heap[w2.heap.size]? = some (.cells #[.slice ca (n - d) cp] 22)) := Lib.hid (heap_alloc_new _ _)
              have hB2 : w.heap.size ≤ w2.heap.size := Nat.le_trans hLB b2.size
              have LP : Hid (∀ w6 g' cap', OwnV w6 w.heap.size (.slice (some ⟨g', 0, none⟩) (L.length + 1) cap') ((List.range L.length).map f ++ [.slice ca (n - d) cp]) → (w2.alloc (.cells #[.slice ca (n - d) cp] 22)).grownBy w6 (Value.slice oa L.length oc).ownBlock → Below w.heap.size w w6 ∧ ∃ f', Lns w6 w.heap.size (.slice (some ⟨g', 0, none⟩) (L.length + 1) cap') (L ++ [l]) f') := Lib.hid (fun w6 g' cap' o6 g6 => lns_clone HB.out hLf ow b2 o6 g6)
              clear ow b2
              go_wp2_with (at_builtin; refine app_list _ rfl _ _ rfl w.heap.size _ _ rfl OV.out L.length (by simp) w2.heap.size 1 _ rfl rfl hA4.out (by omega) (by simp; omega) ?_)
              intro g' cap' w6 o6 g6 hg6
              have LN6 := Lib.hid (LP.out w6 g' cap' o6 g6)
              clear o6 g6 hg6 OV hA4 LP
              go_wp2
              go_roundw
              case rel => exact ⟨d + (n - d), L ++ [l], by omega, by simp; omega, slice_end (by omega), HNx, Lib.hid LN6.out.2, Lib.hid LN6.out.1⟩
              case measure => simp; omega
            · obtain rfl : m = (e : Int) - 1 := by omega
              go_wp2_with fail
              refine HCl.out.mono ?_
              rintro _ w2 ⟨ca, cp, rfl, ow, b2⟩
              have OV := Lib.hid ((hLf.1.all b2).all ((Below.refl w2.heap.size w2).alloc (Nat.le_refl _) (.cells #[.slice ca e cp] 22)))
              have hA4 : Hid ((w2.alloc (.cells #[.slice ca e cp] 22)).heap[w2.heap.size]? = some (.cells #[.slice ca e cp] 22)) := Lib.hid (heap_alloc_new _ _)
              have hB2 : w.heap.size ≤ w2.heap.size := Nat.le_trans hLB b2.size
              have LP : Hid (∀ w6 g' cap', OwnV w6 w.heap.size (.slice (some ⟨g', 0, none⟩) (L.length + 1) cap') ((List.range L.length).map f ++ [.slice ca e cp]) → (w2.alloc (.cells #[.slice ca e cp] 22)).grownBy w6 (Value.slice oa L.length oc).ownBlock → Below w.heap.size w w6 ∧ ∃ f', Lns w6 w.heap.size (.slice (some ⟨g', 0, none⟩) (L.length + 1) cap') (L ++ [l]) f') := Lib.hid (fun w6 g' cap' o6 g6 => lns_clone HB.out hLf ow b2 o6 g6)
              clear ow b2
              go_wp2_with (at_builtin; refine app_list _ rfl _ _ rfl w.heap.size _ _ rfl OV.out L.length (by simp) w2.heap.size 1 _ rfl rfl hA4.out (by omega) (by simp; omega) ?_)
              intro g' cap' w6 o6 g6 hg6
              have LN6 := Lib.hid (LP.out w6 g' cap' o6 g6)
              clear o6 g6 hg6 OV hA4 LP
              go_wp2
              go_roundw
              case rel => exact ⟨d + e, L ++ [l], by omega, by simp; omega, slice_rest (by omega) (by omega), HNx, Lib.hid LN6.out.2, Lib.hid LN6.out.1⟩
              case measure => simp; omega
          · obtain rfl : d = n := by omega
            have hlen : zs.drop d = [] := List.drop_of_length_le (by have := HN2.out; omega)
            have HE2 : Hid (endL (runL ([], []) zs) = L) := Lib.hid (by rw [HE.out, hlen]; rfl)
            obtain ⟨f, hLf⟩ := HL.out
            obtain ⟨oa, oc, hov⟩ := hLf.1.form
            rw [List.length_map, List.length_range] at hov
            subst hov
            have HLf := Lib.hid hLf
            have v1 : ¬ (0 : Int) < ((d - d : Nat) : Int) := by omega
            clear hLf HL HE hlen
            go_wp2
            go_ret2
            exact LnDone.mk (HZ.out.trans HE2.out) HC.out rfl HLf.out HB.out

end Go.Proofs.Ytdckjhobikfggaa

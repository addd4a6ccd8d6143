/- TextOf, the program's and the model's. At most 2^20 characters. -/
import Derived.Test.YtdckjhobikfggaaDoorInts
import Derived.Test.YtdckjhobikfggaaDoorAllA
import Derived.Test.YtdckjhobikfggaaDoorBld
import Derived.Test.YtdckjhobikfggaaDoorLayR
import Derived.Lib.AppendStr
namespace Go.Proofs.YtdckjhobikfggaaDoor
open Go.RowKit

theorem bld_WriteRune (B b : Nat) (zs : List Int) (r : Int) (w : World) (h : Bld w B b zs) (hr : okB r = true) (hl : zs.length + 4 ≤ 70368744177664) (hB : B ≤ w.heap.size) :
    Calls Tryd.prog 38 #[.pointer (some ⟨b, 0, none⟩), .int .i32 r] w fun e w' => e = .returned (.tuple #[.int .i64 (Lib.encodeRuneZ r).length, .nilIface]) ∧ Bld w' B b (zs ++ Lib.encodeRuneZ r) ∧ Below B w w' ∧ Lib.OthersKept 5 (some b) w w' := by
  have ⟨h0, h1, _⟩ := okB_true hr
  refine (Any.Builder_WriteRune_k Tryd.layR168 Tryd.layR_extra B b (zs.map (Value.int .u8)) r (by omega) (by omega) w h (by simp; omega) hB).mono ?_
  rintro e w' ⟨rfl, h1, h2, h3⟩
  exact ⟨by simp [Lib.runeCells], by unfold Bld; rw [List.map_append]; exact Or.inr h1, h2, h3⟩

theorem enc_eq (r : Int) (h : okB r = true) : bs (Lib.encodeRuneZ r) = Utf8.encode r := by
  have ⟨h0, h1, h2⟩ := okB_true h
  by_cases a : r < 128
  · rw [Lib.encodeRuneZ_one h0 (by omega)]; exact enc1 r h a
  · by_cases b : r < 2048
    · rw [Lib.encodeRuneZ_two (by omega) (by omega)]; exact enc2 r h (by omega) b
    · by_cases c : r < 65536
      · rw [Lib.encodeRuneZ_three (by omega)]; exact enc3 r h (by omega) c
      · rw [Lib.encodeRuneZ_four (by omega) (by omega)]; exact enc4 r h (by omega)
theorem encZ_le (r : Int) : (Lib.encodeRuneZ r).length ≤ 4 := by
  have := (Lib.runeCells_le r).2
  simpa [Lib.runeCells] using this
theorem encZ_bytes (r : Int) : Bytes8 (Lib.encodeRuneZ r) := by
  intro x hx
  have := Lib.encodeRuneZ_byte r x hx
  omega

/-- The bytes of the first k characters. -/
def textZ (zs : List Int) (k : Nat) : List Int := (zs.take k).flatMap Lib.encodeRuneZ
def textV (zs : List Int) : ByteArray := if zs.length ≤ 4096 ∧ okAll zs = true then bs (textZ zs zs.length) else ⟨#[]⟩
def textC (zs : List Int) : Int := if zs.length ≤ 4096 then if okAll zs = true then 0 else 4 else 2

theorem textZ_succ (zs : List Int) (k : Nat) (h : k < zs.length) : textZ zs (k + 1) = textZ zs k ++ Lib.encodeRuneZ (zs.getD k 0) := by
  unfold textZ
  rw [List.take_succ_eq_append_getElem h, List.flatMap_append]
  simp [List.getD, List.getElem?_eq_getElem h]
theorem textZ_le (zs : List Int) (k : Nat) : (textZ zs k).length ≤ 4 * k := by
  induction k with
  | zero => simp [textZ]
  | succ k ih =>
    by_cases h : k < zs.length
    · rw [textZ_succ zs k h, List.length_append]
      have := encZ_le (zs.getD k 0)
      omega
    · unfold textZ at *
      rw [List.take_of_length_le (by omega)] at *
      omega
theorem textZ_bytes (zs : List Int) (k : Nat) : Bytes8 (textZ zs k) := by
  intro x hx
  unfold textZ at hx
  rw [List.mem_flatMap] at hx
  obtain ⟨r, _, hr⟩ := hx
  exact encZ_bytes r x hr
theorem strCells_bs {zs : List Int} (h : Bytes8 zs) : Lib.strCells (bs zs) = zs.map (Value.int .u8) := by
  rw [cells_bytes h]; simp [Lib.strCells, Lib.byteCells, bs]
theorem size_bs (zs : List Int) : (bs zs).size = zs.length := by simp [bs, ByteArray.size]

/-- 'append(s, t...)', t a string of the bytes news. -/
theorem app_str (w : World) {ops : Array Oper} {rest : List Oper} {o : Oper} {a : Act} {Q : Exit → Act → World → Prop} (hg : o.guard = none) (s x : Operand)
    (hop : o.op = Op.call { callee := Callee.builtin Builtin.append, args := #[s, x], argTypes := #[22, 9] }) (B : Nat) (v : Value) (zs : List Int) (hs : a.eval s = v) (hown : Own .u8 5 w B v zs)
    (news : List Int) (h8 : Bytes8 news) (hx : a.eval x = .string (bs news)) (hb : zs.length + news.length ≤ 70368744177664) (hB : B ≤ w.heap.size)
    (K : ∀ v' w', Own .u8 5 w' B v' (zs ++ news) → w.grownBy w' v.ownBlock → wpList Tryd.prog ops Q rest (a.put o.dst v') w') : wpList Tryd.prog ops Q (o :: rest) a w := by
  obtain ⟨i, h1, h2, h3, h4⟩ := info_u8
  have hz := size_bs news
  refine Lib.wpList_append_own_string w hg s x 22 9 hop B 5 i Tryd.underlying22 Tryd.underlying9 h1 h2 h3 h4 v _ _ hs hown (bs news) hx (by unfold maxLen; omega) (by omega) hB ?_
  intro v' w' h' hg' _
  rw [strCells_bs h8, hz] at h'
  exact K v' w' (by unfold Own; rw [List.map_append, List.length_append]; exact h') hg'

set_option maxHeartbeats 400000 in
theorem spec_l01Text (v : Value) (zs : List Int) (w : World) (h : Ints .i64 w v zs) (hl : zs.length ≤ 1048576) (hok : okAll zs = true) : Calls Tryd.prog 41 #[v] w fun e w' => e = .returned (.string (bs (textZ zs zs.length))) ∧ Below w.heap.size w w' := by
  rcases h with ⟨rfl, a, c, rfl⟩ | ⟨b, off, c, rfl, hcell⟩
  · go_enter Tryd.func41, Tryd.ntmps41
    have hc : ∀ W : World, (convert 22 9 (.slice (some ⟨W.heap.size, 0, none⟩) 0 0)).run Tryd.prog (W.alloc (.cells #[] 5)) = .ok (.string (bs [])) (W.alloc (.cells #[] 5)) := fun W => conv_lit W []
    go_wp2
    go_loop [3, 4] (fun v i => v = .slice (some ⟨w.heap.size, 0, none⟩) 0 0 ∧ i = .int .i64 0) (fun _ _ => 0)
    case atStart => exact ⟨rfl, rfl⟩
    case round =>
      obtain ⟨rfl, rfl⟩ := hrel
      go_wp2
      go_ret
      exact ⟨rfl, (Below.refl _ _).alloc (Nat.le_refl _) _⟩
  · generalize hn : zs.length = n at *
    have HN := Lib.hid hn
    have HK := Lib.hid hok
    clear hn hok
    go_enter Tryd.func41, Tryd.ntmps41
    go_wp2
    go_loopw [3, 4] (fun v i wr => ∃ k : Nat, k ≤ n ∧ i = .int .i64 k ∧ Own .u8 5 wr w.heap.size v (textZ zs k) ∧ Below w.heap.size w wr) (fun _ i _ => n - (intOf i).toNat)
    case atStart => exact ⟨0, Nat.zero_le _, rfl, Own.lit .u8 5 w w.heap.size [] (Nat.le_refl _) (Nat.zero_le _), (Below.refl _ _).alloc (Nat.le_refl _) _⟩
    case round =>
      obtain ⟨k, hk, rfl, ho, hb⟩ := hrel
      by_cases hlt : k < n
      · have c1 := cell_since hb (hcell k hlt)
        have h1 : (0 : Int) ≤ (k : Int) := by omega
        have h2 : (k : Int) < (n : Int) := by omega
        have hr := okAll_at HK.out k (by have := HN.out; omega)
        have e1 := textZ_succ zs k (by have := HN.out; omega)
        generalize hx : zs.getD k 0 = x at *
        have HE := Lib.hid e1
        clear hcell hx e1
        have hle := textZ_le zs k
        have hle2 := encZ_le x
        go_wp2_with fail
        refine (spec_l01Put _ hr _).mono ?_
        rintro e w1 ⟨rfl, b1⟩
        rw [← enc_eq x hr]
        go_wp2_with (at_builtin; refine app_str _ rfl _ _ rfl w.heap.size _ _ rfl (ho.all b1) (Lib.encodeRuneZ x) (encZ_bytes x) rfl (by omega) (by have := hb.size; have := b1.size; omega) ?_)
        intro v' w2 ho2 hg2
        rw [← HE.out] at ho2
        have hb2 : Below w.heap.size w w2 := (hb.trans (b1.mono hb.size)).grown hg2 (by have := hb.size; have := b1.size; omega) (fun g hg => (World.ownsRow.lt ho g hg).1)
        clear ho hg2
        go_wp2
        go_roundw
        case rel => exact ⟨k + 1, by omega, by go_num, ho2, hb2⟩
        case measure => simp [intOf]; omega
      · have hkn : k = n := by omega
        have hc := conv_own ho
        have HF : Hid (textZ zs n = textZ zs k) := Lib.hid (by rw [hkn])
        clear hkn
        go_wp2
        go_ret
        exact ⟨ret_str (by rw [HF.out]), hb⟩

theorem spec_TextOf (v : Value) (zs : List Int) (w : World) (h : Ints .i64 w v zs) (hl : zs.length ≤ 1048576) : Calls Tryd.prog 12 #[v] w fun e w' => e = .returned (.tuple #[.string (textV zs), .int .i64 (textC zs)]) ∧ Below w.heap.size w w' := by
  have hv2 : ∃ a c, v = .slice a zs.length c := by
    rcases h with ⟨rfl, a, c, rfl⟩ | ⟨b, off, c, rfl, _⟩
    · exact ⟨_, _, rfl⟩
    · exact ⟨_, _, rfl⟩
  obtain ⟨a, c, rfl⟩ := hv2
  by_cases h1 : zs.length ≤ 4096
  · by_cases h2 : okAll zs = true
    · have HV : Hid (textV zs = bs (textZ zs zs.length)) := Lib.hid (by simp [textV, h1, h2])
      have HC : Hid (textC zs = 0) := Lib.hid (by simp [textC, h1, h2])
      have H := Lib.hid h
      clear h
      go_enter Tryd.func12, Tryd.ntmps12
      go_wp2_with fail
      refine (spec_l01All _ zs _ H.out hl).mono ?_
      rintro e w' ⟨rfl, rfl⟩
      go_wp2_with fail
      refine (spec_l01Text _ zs _ H.out hl h2).mono ?_
      rintro e w' ⟨rfl, b1⟩
      go_wp2
      go_ret2
      rw [HV.out, HC.out]
      exact ⟨rfl, b1⟩
    · have h2' : okAll zs = false := by simpa using h2
      have HV : Hid (textV zs = ⟨#[]⟩) := Lib.hid (by simp [textV, h2])
      have HC : Hid (textC zs = 4) := Lib.hid (by simp [textC, h1, h2])
      have H := Lib.hid h
      clear h
      go_enter Tryd.func12, Tryd.ntmps12
      go_wp2_with fail
      refine (spec_l01All _ zs _ H.out hl).mono ?_
      rintro e w' ⟨rfl, rfl⟩
      go_wp2
      go_ret2
      rw [HV.out, HC.out]
      exact ⟨rfl, Below.refl _ _⟩
  · have HV : Hid (textV zs = ⟨#[]⟩) := Lib.hid (by simp [textV, h1])
    have HC : Hid (textC zs = 2) := Lib.hid (by simp [textC, h1])
    have H := Lib.hid h
    clear h
    go_enter Tryd.func12, Tryd.ntmps12
    go_wp2
    go_ret2
    rw [HV.out, HC.out]
    exact ⟨rfl, Below.refl _ _⟩

set_option maxHeartbeats 400000 in
theorem impl_TextOf (v : Value) (zs : List Int) (w : World) (h : Ints .i64 w v zs) (hl : zs.length ≤ 1048576) : Calls Tryd.prog 11 #[v] w fun e w' => e = .returned (.tuple #[.string (textV zs), .int .i64 (textC zs)]) ∧ Below w.heap.size w w' := by
  by_cases h1 : zs.length ≤ 4096
  · rcases h with ⟨rfl, a, c, rfl⟩ | ⟨b, off, c, rfl, hcell⟩
    · have HV : Hid (textV [] = bs (textZ [] 0)) := Lib.hid rfl
      have HC : Hid (textC [] = 0) := Lib.hid rfl
      go_enter Tryd.func11, Tryd.ntmps11
      go_wp2
      go_loop [12] (fun i => i = .int .i64 0) (fun _ => 0)
      case atStart => rfl
      case round =>
        subst hrel
        go_wp2_with fail
        refine (bld_String w.heap.size _ [] _ (Bld.fresh w) Bytes8.nil (by simp)).mono ?_
        rintro e w1 ⟨rfl, b1⟩
        go_wp2
        go_ret2
        rw [HV.out, HC.out]
        exact ⟨rfl, ((Below.refl _ _).alloc (Nat.le_refl _) _).trans b1⟩
    · have hd : decide ((4096 : Int) < (zs.length : Int)) = false := by simp; omega
      generalize hn : zs.length = n at *
      have HN := Lib.hid hn
      clear hn
      go_enter Tryd.func11, Tryd.ntmps11
      go_wp2
      go_loopw [12] (fun i wr => ∃ k : Nat, k ≤ n ∧ i = .int .i64 k ∧ Hid (okAll (zs.take k) = true) ∧ Bld wr w.heap.size w.heap.size (textZ zs k) ∧ Below w.heap.size w wr) (fun i _ => n - (intOf i).toNat)
      case atStart => exact ⟨0, Nat.zero_le _, rfl, Lib.hid rfl, Bld.fresh w, (Below.refl _ _).alloc (Nat.le_refl _) _⟩
      case round =>
        obtain ⟨k, hk, rfl, HO, ho, hb⟩ := hrel
        by_cases hlt : k < n
        · have c1 := cell_since hb (hcell k hlt)
          have h3 : (0 : Int) ≤ (k : Int) := by omega
          have h4 : (k : Int) < (n : Int) := by omega
          have e1 := textZ_succ zs k (by have := HN.out; omega)
          generalize hx : zs.getD k 0 = x at *
          have HE := Lib.hid e1
          have HX := Lib.hid hx
          clear hcell hx e1
          have hle := textZ_le zs k
          by_cases hr : okB x = true
          · have ⟨r0, r1, _⟩ := okB_true hr
            go_wp2_with fail
            refine (impl_RuneOK _ _).mono ?_
            rintro e w' ⟨rfl, rfl⟩
            go_wp2_with fail
            refine (bld_WriteRune _ _ _ _ _ ho hr (by omega) hb.size).mono ?_
            rintro e w1 ⟨rfl, o1, b1, _⟩
            rw [← HE.out] at o1
            have HO2 : Hid (okAll (zs.take (k + 1)) = true) := Lib.hid (okAll_take k (by have := HN.out; omega) HO.out (by rw [HX.out]; exact hr))
            clear ho
            go_wp2
            go_roundw
            case rel => exact ⟨k + 1, by omega, by go_num, HO2, o1, hb.trans b1⟩
            case measure => simp [intOf]; omega
          · have hr' : okB x = false := by simpa using hr
            have HF : Hid (okAll zs = false) := Lib.hid (okAll_bad k (by have := HN.out; omega) (by rw [HX.out]; exact hr'))
            have HV : Hid (textV zs = ⟨#[]⟩) := Lib.hid (by simp [textV, HF.out])
            have HC : Hid (textC zs = 4) := Lib.hid (by simp [textC, HF.out]; have := HN.out; omega)
            go_wp2_with fail
            refine (impl_RuneOK _ _).mono ?_
            rintro e w' ⟨rfl, rfl⟩
            go_wp2
            go_ret2
            rw [HV.out, HC.out]
            exact ⟨rfl, hb⟩
        · have HF : Hid (okAll zs = true) := Lib.hid (by have := HO.out; rwa [List.take_of_length_le (by have := HN.out; omega)] at this)
          have hkn : zs.length = k := by have := HN.out; omega
          have HV : Hid (textV zs = bs (textZ zs k)) := Lib.hid (by simp [textV, HF.out, hkn]; omega)
          have HC : Hid (textC zs = 0) := Lib.hid (by simp [textC, HF.out]; omega)
          clear hkn
          go_wp2_with fail
          refine (bld_String _ _ _ _ ho (textZ_bytes _ _) hb.size).mono ?_
          rintro e w1 ⟨rfl, b1⟩
          go_wp2
          go_ret2
          rw [HV.out, HC.out]
          exact ⟨rfl, hb.trans b1⟩
  · have hv2 : ∃ a c, v = .slice a zs.length c := by
      rcases h with ⟨rfl, a, c, rfl⟩ | ⟨b, off, c, rfl, _⟩
      · exact ⟨_, _, rfl⟩
      · exact ⟨_, _, rfl⟩
    obtain ⟨a, c, rfl⟩ := hv2
    have HV : Hid (textV zs = ⟨#[]⟩) := Lib.hid (by simp [textV, h1])
    have HC : Hid (textC zs = 2) := Lib.hid (by simp [textC, h1])
    clear h
    go_enter Tryd.func11, Tryd.ntmps11
    go_wp2
    go_ret2
    rw [HV.out, HC.out]
    exact ⟨rfl, Below.refl _ _⟩

end Go.Proofs.YtdckjhobikfggaaDoor
